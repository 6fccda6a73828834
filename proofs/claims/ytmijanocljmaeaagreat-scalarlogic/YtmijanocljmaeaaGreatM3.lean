/- scalar.whole at and, or, nand of arrays of bits. -/
import Derived.Test.YtmijanocljmaeaaGreatKS4
import Derived.Test.YtmijanocljmaeaaGreatM1
import Derived.Test.YtmijanocljmaeaaGreatM2
import Derived.Test.YtmijanocljmaeaaGreatKS1
import Derived.Test.YtmijanocljmaeaaGreatK7
namespace Go.Proofs.YtmijanocljmaeaaGreat
set_option linter.unusedVariables false
set_option linter.unusedSimpArgs false
open Go.RowKit

section
variable {D : Nat → Prop} {f : Nat} {w v : World} {p gA oA gB oB bh kf : Nat} {op : Bool → Bool → Bool} {la lb : List Tr} {qa qb : List Bool} {j k : Nat} {cc gl : Int}
variable (hD : ∀ g, D g → g < w.heap.size) (hp : ∀ g, D g → g ≠ p) (hgA : D gA) (hgB : D gB) (hcA : ∀ j, j < la.length → ItC (ArV f D w) D w gA (oA + j * 6) (la.getD j tr0)) (hcB : ∀ j, j < lb.length → ItC (ArV f D w) D w gB (oB + j * 6) (lb.getD j tr0)) (wA : Bits qa la) (wB : Bits qb lb) (hj : j < la.length) (hk : k < lb.length)
include hD hp hgA hgB hcA hcB wA wB hj hk
theorem logitems_look {gw : Nat} (hG : LogG gl) (kv : Kp p w v) (P : BoxA v p 90 #[.int .i32 gl, .func (.func 40) #[] #[.pointer (some ⟨gw, 0, none⟩)], .int .i64 cc, .int .i64 0]) (hc : 0 < cc) :
    Calls Tryz.prog 100 #[.pointer (some ⟨p, 0, none⟩), .pointer (some ⟨gA, oA + j * 6, none⟩), .pointer (some ⟨gB, oB + k * 6, none⟩)] v fun e w' => ItemR v.heap.size (fun _ _ _ => True) e w' ∧ Below v.heap.size v w' := by
 obtain ⟨a1, c1, a2, c2, e0, e1, e2, e3, r1, r2⟩ := at_item hD hgA hcA hj kv hp
 obtain ⟨a3, c3, a4, c4, g0, g1, g2, g3, r3, r4⟩ := at_item hD hgB hcB hk kv hp
 have h1 := wA.at hj
 have h4 := wB.at hk
 rw [h1] at e0 e1 e2 e3 r1 r2
 rw [h4] at g0 g1 g2 g3 r3 r4
 have lA : gA < v.heap.size := Nat.lt_of_lt_of_le (hD gA hgA) kv.size
 have lB : gB < v.heap.size := Nat.lt_of_lt_of_le (hD gB hgB) kv.size
 refine items_num (bx := false) (cy := false) (xn := bitL (qa.getD j false)) (xd := [1]) (yn := bitL (qb.getD k false)) (yd := [1]) lA lB ⟨e0, e1, e2, e3, g0, g1, g2, g3⟩ ?_
 intro v' hb
 have P' := P.below hb P.lt
 refine (lognums_look (h := qa.getD j false) (k := qb.getD k false) hG P'.lt (P'.cell 0 rfl) (P'.cell 2 rfl) (P'.cell 3 rfl) hc ((r1.below hb).mono hb.size) ((r2.below hb).mono hb.size) ((r3.below hb).mono hb.size) ((r4.below hb).mono hb.size)).mono ?_
 rintro e w' ⟨rfl, hb'⟩
 exact ⟨⟨false, none, [], 0, none, [], 0, rfl, own_nilT _ _, own_nilT _ _, trivial⟩, hb'⟩
theorem logitems_work (HO : Hid (HoldB kf op)) (hf : w.cell? ⟨bh, 0, none⟩ = some (.func (.func kf) #[] #[])) (hbh : bh ≠ p) (kv : Kp p w v) (P : BoxA v p 90 #[.int .i32 gl, .func (.func 137) #[] #[.pointer (some ⟨bh, 0, none⟩)], .int .i64 cc, .int .i64 16384]) (hc : ¬ 16384 < cc) :
    Calls Tryz.prog 100 #[.pointer (some ⟨p, 0, none⟩), .pointer (some ⟨gA, oA + j * 6, none⟩), .pointer (some ⟨gB, oB + k * 6, none⟩)] v fun e w' => ItemR v.heap.size (fun b ns ds => numT b ns ds = wholeT (bitI (op (qa.getD j false) (qb.getD k false)))) e w' ∧ Below v.heap.size v w' := by
 obtain ⟨a1, c1, a2, c2, e0, e1, e2, e3, r1, r2⟩ := at_item hD hgA hcA hj kv hp
 obtain ⟨a3, c3, a4, c4, g0, g1, g2, g3, r3, r4⟩ := at_item hD hgB hcB hk kv hp
 have h1 := wA.at hj
 have h4 := wB.at hk
 rw [h1] at e0 e1 e2 e3 r1 r2
 rw [h4] at g0 g1 g2 g3 r3 r4
 have lA : gA < v.heap.size := Nat.lt_of_lt_of_le (hD gA hgA) kv.size
 have lB : gB < v.heap.size := Nat.lt_of_lt_of_le (hD gB hgB) kv.size
 refine items_num (bx := false) (cy := false) (xn := bitL (qa.getD j false)) (xd := [1]) (yn := bitL (qb.getD k false)) (yd := [1]) lA lB ⟨e0, e1, e2, e3, g0, g1, g2, g3⟩ ?_
 intro v' hb
 have P' := P.below hb P.lt
 have hfv := kv.cell hbh hf
 exact lognums_work (h := qa.getD j false) (k := qb.getD k false) HO ((hb.cell (p := ⟨bh, 0, none⟩) (lt_of_cellT hfv)).trans hfv) P'.lt (P'.cell 1 rfl) (P'.cell 2 rfl) (P'.cell 3 rfl) hc ((r1.below hb).mono hb.size) ((r2.below hb).mono hb.size) ((r3.below hb).mono hb.size) ((r4.below hb).mono hb.size)
end
section
variable {D : Nat → Prop} {f : Nat} {w : World} {ba bb gA oA cA gB oB cB n : Nat} {la lb L : List Tr} {qa qb : List Bool} {bh kf : Nat} {op : Bool → Bool → Bool} {gl : Int} {x1 : Option Addr} {y1 : Nat} {sh : List Int}
set_option maxRecDepth 100000 in
set_option maxHeartbeats 16000000 in
theorem whole_log (hG : LogG gl) (HO : Hid (HoldB kf op)) (hf : w.cell? ⟨bh, 0, none⟩ = some (.func (.func kf) #[] #[])) (hD : ∀ g, D g → g < w.heap.size) (hgA : D gA) (hgB : D gB) (hcA : ∀ j, j < la.length → ItC (ArV f D w) D w gA (oA + j * 6) (la.getD j tr0)) (hcB : ∀ j, j < lb.length → ItC (ArV f D w) D w gB (oB + j * 6) (lb.getD j tr0)) (wA : Bits qa la) (wB : Bits qb lb) (hA : 0 < la.length) (hB : 0 < lb.length)
    (ca : w.cell? ⟨ba, 1, none⟩ = some (.slice (some ⟨gA, oA, none⟩) la.length cA)) (cb : w.cell? ⟨bb, 1, none⟩ = some (.slice (some ⟨gB, oB, none⟩) lb.length cB)) (hsh : RdN D w (.slice x1 sh.length y1) sh) (hsz : sizeF sh = ((n : Int), 0)) (hn : 0 < n) (hn4 : n ≤ 4096) (hL : L.length = n) (hLi : ∀ i, i < n → L.getD i tr0 = wholeT (bitI (op (qa.getD (i % la.length) false) (qb.getD (i % lb.length) false)))) :
    Calls Tryz.prog 20 #[.int .i32 gl, .func (.func 137) #[] #[.pointer (some ⟨bh, 0, none⟩)], .slice x1 sh.length y1, .func (.func 43) #[] #[.pointer (some ⟨ba, 0, none⟩), .pointer (some ⟨bb, 0, none⟩)]] w fun e w' => ∃ x5 y5 b3 d3, e = .returned (.tuple #[.agg #[.slice x5 sh.length y5, .slice b3 n d3], .int .i64 0]) ∧ ArV 1 (Fr w.heap.size w'.heap.size) w' (.slice x5 sh.length y5) (.slice b3 n d3) (arrT sh L) ∧ Below w.heap.size w w' := by
 have k1 := below_alloc w (.cells #[.int .i32 gl] 21)
 have k2 := below_alloc (w.alloc (.cells #[.int .i32 gl] 21)) (.cells #[.slice none 0 0, .slice none 0 0] 25)
 have k3 := below_alloc ((w.alloc (.cells #[.int .i32 gl] 21)).alloc (.cells #[.slice none 0 0, .slice none 0 0] 25)) (.cells #[.int .i32 gl, .func (.func 40) #[] #[.pointer (some ⟨w.heap.size, 0, none⟩)], .int .i64 0, .int .i64 0] 90)
 have k23 : Below (w.alloc (.cells #[.int .i32 gl] 21)).heap.size (w.alloc (.cells #[.int .i32 gl] 21)) (((w.alloc (.cells #[.int .i32 gl] 21)).alloc (.cells #[.slice none 0 0, .slice none 0 0] 25)).alloc (.cells #[.int .i32 gl, .func (.func 40) #[] #[.pointer (some ⟨w.heap.size, 0, none⟩)], .int .i64 0, .int .i64 0] 90)) := k2.trans (k3.mono (by simp))
 have g : Below w.heap.size w (((w.alloc (.cells #[.int .i32 gl] 21)).alloc (.cells #[.slice none 0 0, .slice none 0 0] 25)).alloc (.cells #[.int .i32 gl, .func (.func 40) #[] #[.pointer (some ⟨w.heap.size, 0, none⟩)], .int .i64 0, .int .i64 0] 90)) := k1.trans (k23.mono (by simp))
 have Gl := (boxA_new w #[.int .i32 gl] 21).below k23 (by simp)
 have R := (boxA_new (w.alloc (.cells #[.int .i32 gl] 21)) #[.slice none 0 0, .slice none 0 0] 25).below k3 (by simp)
 have Pl := boxA_new ((w.alloc (.cells #[.int .i32 gl] 21)).alloc (.cells #[.slice none 0 0, .slice none 0 0] 25)) #[.int .i32 gl, .func (.func 40) #[] #[.pointer (some ⟨w.heap.size, 0, none⟩)], .int .i64 0, .int .i64 0] 90
 have sz2 : ((w.alloc (.cells #[.int .i32 gl] 21)).alloc (.cells #[.slice none 0 0, .slice none 0 0] 25)).heap.size = w.heap.size + 1 + 1 := by simp
 have sz3 : (((w.alloc (.cells #[.int .i32 gl] 21)).alloc (.cells #[.slice none 0 0, .slice none 0 0] 25)).alloc (.cells #[.int .i32 gl, .func (.func 40) #[] #[.pointer (some ⟨w.heap.size, 0, none⟩)], .int .i64 0, .int .i64 0] 90)).heap.size = w.heap.size + 1 + 1 + 1 := by simp
 rw [World.size_alloc] at R
 rw [sz2] at Pl
 have lba : ba < w.heap.size := lt_of_cellT ca
 have lbb : bb < w.heap.size := lt_of_cellT cb
 have cA3 := fun j hj => (hcA j hj).imp hgA (fun _ h => h) (Agree.of g hD) (fun _ _ _ h => h.agree (Agree.of g hD))
 have cB3 := fun j hj => (hcB j hj).imp hgB (fun _ h => h) (Agree.of g hD) (fun _ _ _ h => h.agree (Agree.of g hD))
 have C1 := through_look Pl (hsh.imp (fun _ h => h) (Agree.of g hD)) (fun q hq => by have := hD q hq; omega) hsz hn hn4 ((g.cell (p := ⟨ba, 1, none⟩) lba).trans ca) ((g.cell (p := ⟨bb, 1, none⟩) lbb).trans cb) (by omega) (by omega) hA hB (fun i hi v' kv P => logitems_look (D := D) (fun q hq => by have := hD q hq; omega) (fun q hq => by have := hD q hq; omega) hgA hgB cA3 cB3 wA wB (Nat.mod_lt i hA) (Nat.mod_lt i hB) hG kv P (by omega))
 clear cA3 cB3
 have HF : Hid (w.cell? ⟨bh, 0, none⟩ = some (.func (.func kf) #[] #[])) := hf
 have lbh : bh < w.heap.size := lt_of_cellT hf
 have HD : Hid (∀ g, D g → g < w.heap.size) := hD
 have HcA : Hid (∀ j, j < la.length → ItC (ArV f D w) D w gA (oA + j * 6) (la.getD j tr0)) := hcA
 have HcB : Hid (∀ j, j < lb.length → ItC (ArV f D w) D w gB (oB + j * 6) (lb.getD j tr0)) := hcB
 have HwA : Hid (Bits qa la) := wA
 have HwB : Hid (Bits qb lb) := wB
 have Hsh : Hid (RdN D w (.slice x1 sh.length y1) sh) := hsh
 have Hsz : Hid (sizeF sh = ((n : Int), 0)) := hsz
 have HL : Hid (L.length = n) := hL
 have HLi : Hid (∀ i, i < n → L.getD i tr0 = wholeT (bitI (op (qa.getD (i % la.length) false) (qb.getD (i % lb.length) false)))) := hLi
 have Hca : Hid (w.cell? ⟨ba, 1, none⟩ = some (.slice (some ⟨gA, oA, none⟩) la.length cA)) := ca
 have Hcb : Hid (w.cell? ⟨bb, 1, none⟩ = some (.slice (some ⟨gB, oB, none⟩) lb.length cB)) := cb
 clear hf hD hcA hcB wA wB hsh hsz hL hLi ca cb k1 k2 k3 k23
 have g0 := Gl.cell 0 rfl
 have hb1 : (Instr.build 90 #[(0, .int .i32 gl), (1, .func (.func 40) #[] #[.pointer (some ⟨w.heap.size, 0, none⟩)])]).run Tryz.prog ((w.alloc (.cells #[.int .i32 gl] 21)).alloc (.cells #[.slice none 0 0, .slice none 0 0] 25)) = .ok (.agg #[.int .i32 gl, .func (.func 40) #[] #[.pointer (some ⟨w.heap.size, 0, none⟩)], .int .i64 0, .int .i64 0]) ((w.alloc (.cells #[.int .i32 gl] 21)).alloc (.cells #[.slice none 0 0, .slice none 0 0] 25)) := by kernel_rfl
 have hst := @run_storeF Tryz.prog
 go_enter Tryz.func20, Tryz.ntmps20
 go_wp2_with fail
 clear g0 hb1
 generalize hA3 : ((w.alloc (.cells #[.int .i32 gl] 21)).alloc (.cells #[.slice none 0 0, .slice none 0 0] 25)).alloc (.cells #[.int .i32 gl, .func (.func 40) #[] #[.pointer (some ⟨w.heap.size, 0, none⟩)], .int .i64 0, .int .i64 0] 90) = v at *
 clear hA3
 refine C1.mono ?_
 rintro e w4 ⟨⟨x6, y6, rfl⟩, k4⟩
 clear C1
 have s4 := k4.size
 have kb4 : Below w.heap.size w w4 := g.trans (k4.below (by omega) (by omega))
 have G4 : BoxA w4 w.heap.size 21 #[.int .i32 gl] := by
  have := Gl
  unfold BoxA at this ⊢
  rw [k4.block _ (by omega) (by omega)]; exact this
 have R4 : BoxA w4 (w.heap.size + 1) 25 #[.slice none 0 0, .slice none 0 0] := by
  have := R
  unfold BoxA at this ⊢
  rw [k4.block _ (by omega) (by omega)]; exact this
 have k5 := below_alloc w4 (.cells #[.slice x6 sh.length y6, .slice none 0 0] 25)
 have G5 := G4.below k5 G4.lt
 have g5 := G5.cell 0 rfl
 have lR4 := R4.lt
 have R5 := R4.below k5 R4.lt
 have sz5 : (w4.alloc (.cells #[.slice x6 sh.length y6, .slice none 0 0] 25)).heap.size = w4.heap.size + 1 := by simp
 have kb5 : Below w.heap.size w (w4.alloc (.cells #[.slice x6 sh.length y6, .slice none 0 0] 25)) := kb4.trans (k5.mono (by omega))
 have k6 := below_alloc (w4.alloc (.cells #[.slice x6 sh.length y6, .slice none 0 0] 25)) (.cells #[.int .i32 gl, .func (.func 137) #[] #[.pointer (some ⟨bh, 0, none⟩)], .int .i64 0, .int .i64 16384] 90)
 have Pw := boxA_new (w4.alloc (.cells #[.slice x6 sh.length y6, .slice none 0 0] 25)) #[.int .i32 gl, .func (.func 137) #[] #[.pointer (some ⟨bh, 0, none⟩)], .int .i64 0, .int .i64 16384] 90
 have kb6 : Below w.heap.size w ((w4.alloc (.cells #[.slice x6 sh.length y6, .slice none 0 0] 25)).alloc (.cells #[.int .i32 gl, .func (.func 137) #[] #[.pointer (some ⟨bh, 0, none⟩)], .int .i64 0, .int .i64 16384] 90)) := kb5.trans (k6.mono (by omega))
 have R6 := R5.below k6 (by omega)
 have sz6 : ((w4.alloc (.cells #[.slice x6 sh.length y6, .slice none 0 0] 25)).alloc (.cells #[.int .i32 gl, .func (.func 137) #[] #[.pointer (some ⟨bh, 0, none⟩)], .int .i64 0, .int .i64 16384] 90)).heap.size = w4.heap.size + 1 + 1 := by simp
 rw [sz5] at Pw
 have cA6 := fun j hj => (HcA.out j hj).imp hgA (fun _ h => h) (Agree.of kb6 HD.out) (fun _ _ _ h => h.agree (Agree.of kb6 HD.out))
 have cB6 := fun j hj => (HcB.out j hj).imp hgB (fun _ h => h) (Agree.of kb6 HD.out) (fun _ _ _ h => h.agree (Agree.of kb6 HD.out))
 have C2 := through_work (L := L) Pw (Hsh.out.imp (fun _ h => h) (Agree.of kb6 HD.out)) (fun q hq => by have := HD.out q hq; omega) Hsz.out hn hn4 HL.out ((kb6.cell (p := ⟨ba, 1, none⟩) lba).trans Hca.out) ((kb6.cell (p := ⟨bb, 1, none⟩) lbb).trans Hcb.out) (by omega) (by omega) hA hB (fun i hi v' kv P => by
  rw [HLi.out i hi]
  exact logitems_work (D := D) (fun q hq => by have := HD.out q hq; omega) (fun q hq => by have := HD.out q hq; omega) hgA hgB cA6 cB6 HwA.out HwB.out (Nat.mod_lt i hA) (Nat.mod_lt i hB) HO ((kb6.cell (p := ⟨bh, 0, none⟩) lbh).trans HF.out) (by omega) kv P (by omega))
 clear cA6 cB6
 have hb2 : (Instr.build 90 #[(0, .int .i32 gl), (1, .func (.func 137) #[] #[.pointer (some ⟨bh, 0, none⟩)]), (3, .int .i64 16384)]).run Tryz.prog (w4.alloc (.cells #[.slice x6 sh.length y6, .slice none 0 0] 25)) = .ok (.agg #[.int .i32 gl, .func (.func 137) #[] #[.pointer (some ⟨bh, 0, none⟩)], .int .i64 0, .int .i64 16384]) (w4.alloc (.cells #[.slice x6 sh.length y6, .slice none 0 0] 25)) := by kernel_rfl
 go_wp2_with fail
 clear g5 hb2
 generalize hA6 : (w4.alloc (.cells #[.slice x6 sh.length y6, .slice none 0 0] 25)).alloc (.cells #[.int .i32 gl, .func (.func 137) #[] #[.pointer (some ⟨bh, 0, none⟩)], .int .i64 0, .int .i64 16384] 90) = u at *
 clear hA6
 refine C2.mono ?_
 rintro e w7 ⟨x5, y5, b3, d3, rfl, hv, k7⟩
 clear C2
 have s7 := k7.size
 have kb7 : Below w.heap.size w w7 := kb6.trans (k7.below (by omega) (by omega))
 have R7 : BoxA w7 (w.heap.size + 1) 25 #[.slice none 0 0, .slice none 0 0] := by
  have := R6
  unfold BoxA at this ⊢
  rw [k7.block _ (by omega) (by omega)]; exact this
 have r0 := R7.cell 0 rfl
 have r1 := R7.cell 1 rfl
 have f0 := R7.frozen 0
 have f1 := R7.frozen 1
 have Q := boxA_s1 (boxA_s0 R7 (.slice x5 sh.length y5)) (.slice b3 n d3)
 have j0 := Q.cell 0 rfl
 have j1 := Q.cell 1 rfl
 have HV : Hid (ArV 1 (Fr u.heap.size w7.heap.size) w7 (.slice x5 sh.length y5) (.slice b3 n d3) (arrT sh L)) := hv
 clear hv
 go_wp2
 refine bodyPost_ret (v := .tuple #[.agg #[.slice x5 sh.length y5, .slice b3 n d3], .int .i64 0]) (by simp [results, Tryz.results20, go_sem, j0, j1]) rfl ?_
 refine ⟨x5, y5, b3, d3, rfl, ArV.imp (fun q hq => ⟨by have := hq.1; omega, by rw [set1_size, set1_size]; exact hq.2⟩) (fun q hq => by rw [set1_other (by show ¬ w.heap.size + 1 = q; have := hq.1; omega), set1_other (by show ¬ w.heap.size + 1 = q; have := hq.1; omega)]) 1 1 _ _ _ (Nat.le_refl _) HV.out, Below.set2 kb7 (by omega) _ _⟩
end
end Go.Proofs.YtmijanocljmaeaaGreat

/- scalar.Dyadic at and, or, nand: two arrays of bits of one shape. -/
namespace Go.Proofs.YtmijanocljmaeaaGreat
set_option linter.unusedVariables false
set_option linter.unusedSimpArgs false
open Go.RowKit

/-- A glyph, its function of truths, and the place where that lies. -/
def LogK (gl : Int) (kf : Nat) (op : Bool → Bool → Bool) (d : Nat) : Prop := (gl = 8743 ∧ kf = 95 ∧ op = (fun a b => a && b) ∧ d = 8) ∨ (gl = 8744 ∧ kf = 96 ∧ op = (fun a b => a || b) ∧ d = 9) ∨ (gl = 9074 ∧ kf = 97 ∧ op = (fun a b => !(a && b)) ∧ d = 10)
theorem LogK.glyph {gl : Int} {kf d : Nat} {op : Bool → Bool → Bool} (h : LogK gl kf op d) : LogG gl := by
 rcases h with ⟨rfl, _⟩ | ⟨rfl, _⟩ | ⟨rfl, _⟩
 · exact Or.inl rfl
 · exact Or.inr (Or.inl rfl)
 · exact Or.inr (Or.inr rfl)
theorem LogK.holds {gl : Int} {kf d : Nat} {op : Bool → Bool → Bool} (h : LogK gl kf op d) : HoldB kf op := by
 rcases h with ⟨_, rfl, rfl, _⟩ | ⟨_, rfl, rfl, _⟩ | ⟨_, rfl, rfl, _⟩
 · exact holdB_10
 · exact holdB_11
 · exact holdB_12
theorem LogK.value {gl : Int} {kf d : Nat} {op : Bool → Bool → Bool} (h : LogK gl kf op d) (b : Nat) : atKey .nilFunc gl (tab2 b) = .func (.func 137) #[] #[.pointer (some ⟨b + d, 0, none⟩)] := by
 rcases h with ⟨rfl, _, _, rfl⟩ | ⟨rfl, _, _, rfl⟩ | ⟨rfl, _, _, rfl⟩ <;> rfl
theorem LogK.cell {gl : Int} {kf d : Nat} {op : Bool → Bool → Bool} (h : LogK gl kf op d) {b : Nat} {bb : Bool} {a1 : Option Addr} {n1 c1 : Nat} {a2 : Option Addr} {n2 c2 : Nat} {w' : World} (hT : OfTwo b bb a1 n1 c1 a2 n2 c2 w') : w'.cell? ⟨b + d, 0, none⟩ = some (.func (.func kf) #[] #[]) := by
 obtain ⟨_, _, _, _, _, _, _, _, _, h8, h9, h10, _⟩ := hT.cells
 rcases h with ⟨_, rfl, _, rfl⟩ | ⟨_, rfl, _, rfl⟩ | ⟨_, rfl, _, rfl⟩
 · exact h8
 · exact h9
 · exact h10
section
variable {w : World} {x1 x2 x3 x4 : Option Addr} {n1 y1 n2 y2 n3 y3 n4 y4 : Nat} {D : Nat → Prop} {sa sb : List Int}
set_option maxRecDepth 100000 in
set_option maxHeartbeats 16000000 in
theorem together_same (hD : ∀ g, D g → g < w.heap.size) (h1 : RdN D w (.slice x1 n1 y1) sa) (h2 : RdN D w (.slice x3 n3 y3) sb) (he : sa = sb) : Calls Tryz.prog 19 #[.agg #[.slice x1 n1 y1, .slice x2 n2 y2], .agg #[.slice x3 n3 y3, .slice x4 n4 y4]] w fun e w' => e = .returned (.tuple #[.slice x1 n1 y1, .int .i64 0]) ∧ Below w.heap.size w w' := by
 have k1 := below_alloc w (.cells #[.slice x1 n1 y1, .slice x2 n2 y2] 25)
 have k2 := below_alloc (w.alloc (.cells #[.slice x1 n1 y1, .slice x2 n2 y2] 25)) (.cells #[.slice x3 n3 y3, .slice x4 n4 y4] 25)
 have X := (boxA_new w #[.slice x1 n1 y1, .slice x2 n2 y2] 25).below k2 (by simp)
 have Y := boxA_new (w.alloc (.cells #[.slice x1 n1 y1, .slice x2 n2 y2] 25)) #[.slice x3 n3 y3, .slice x4 n4 y4] 25
 rw [World.size_alloc] at Y
 have g : Below w.heap.size w ((w.alloc (.cells #[.slice x1 n1 y1, .slice x2 n2 y2] 25)).alloc (.cells #[.slice x3 n3 y3, .slice x4 n4 y4] 25)) := k1.trans (k2.mono (by simp))
 have sv : ((w.alloc (.cells #[.slice x1 n1 y1, .slice x2 n2 y2] 25)).alloc (.cells #[.slice x3 n3 y3, .slice x4 n4 y4] 25)).heap.size = w.heap.size + 1 + 1 := by simp
 have C1 := equalN_any (h1.imp (fun _ h => h) (Agree.of g hD)) (h2.imp (fun _ h => h) (Agree.of g hD))
 rw [decide_eq_true he] at C1
 have x0 := X.cell 0 rfl
 have y0 := Y.cell 0 rfl
 clear k1 k2 hD h1 h2 he
 go_enter Tryz.func19, Tryz.ntmps19
 go_wp2_with fail
 generalize hA : (w.alloc (.cells #[.slice x1 n1 y1, .slice x2 n2 y2] 25)).alloc (.cells #[.slice x3 n3 y3, .slice x4 n4 y4] 25) = v at *
 clear hA x0 y0
 refine C1.mono ?_
 rintro e w1 ⟨rfl, q1⟩
 clear C1
 have X1 := X.below q1 (by omega)
 have Y1 := Y.below q1 (by omega)
 have s1 := q1.size
 have x0 := X1.cell 0 rfl
 go_wp2
 go_ret2
 exact ⟨rfl, g.trans (q1.mono g.size)⟩
end
section
variable {D : Nat → Prop} {f : Nat} {w : World} {io pp : Int} {bc : Bool} {e1 e2 : Option Addr} {cn cd : List Int} {f1 f2 : Nat} {x1 x2 x3 x4 : Option Addr} {n1 y1 n2 y2 n3 y3 n4 y4 : Nat} {t s : Tr} {gl : Int} {kf d : Nat} {op : Bool → Bool → Bool}
set_option maxRecDepth 100000 in
set_option maxHeartbeats 16000000 in
theorem dyadOf_log (hK : LogK gl kf op d) (hI : DyIn D f w bc e1 e2 cn cd f1 f2 x1 x2 x3 x4 n1 y1 n2 y2 n3 y3 n4 y4 t s) :
    Calls Tryz.prog 18 #[.agg #[.int .i64 io, .bool bc, .slice e1 cn.length f1, .slice e2 cd.length f2, .int .i64 pp], .int .i32 gl, .agg #[.slice x1 n1 y1, .slice x2 n2 y2], .agg #[.slice x3 n3 y3, .slice x4 n4 y4]] w fun e w' => e = .returned (.tuple #[.func (.func 137) #[] #[.pointer (some ⟨w.heap.size + 1 + 1 + 1 + d, 0, none⟩)], .int .i64 0]) ∧ w'.cell? ⟨w.heap.size + 1 + 1 + 1 + d, 0, none⟩ = some (.func (.func kf) #[] #[]) ∧ Below w.heap.size w w' := by
 have k1 := below_alloc w (.cells #[.int .i64 io, .bool bc, .slice e1 cn.length f1, .slice e2 cd.length f2, .int .i64 pp] 35)
 have k2 := below_alloc (w.alloc (.cells #[.int .i64 io, .bool bc, .slice e1 cn.length f1, .slice e2 cd.length f2, .int .i64 pp] 35)) (.cells #[.slice x1 n1 y1, .slice x2 n2 y2] 25)
 have k3 := below_alloc ((w.alloc (.cells #[.int .i64 io, .bool bc, .slice e1 cn.length f1, .slice e2 cd.length f2, .int .i64 pp] 35)).alloc (.cells #[.slice x1 n1 y1, .slice x2 n2 y2] 25)) (.cells #[.slice x3 n3 y3, .slice x4 n4 y4] 25)
 have k23 : Below (w.alloc (.cells #[.int .i64 io, .bool bc, .slice e1 cn.length f1, .slice e2 cd.length f2, .int .i64 pp] 35)).heap.size (w.alloc (.cells #[.int .i64 io, .bool bc, .slice e1 cn.length f1, .slice e2 cd.length f2, .int .i64 pp] 35)) (((w.alloc (.cells #[.int .i64 io, .bool bc, .slice e1 cn.length f1, .slice e2 cd.length f2, .int .i64 pp] 35)).alloc (.cells #[.slice x1 n1 y1, .slice x2 n2 y2] 25)).alloc (.cells #[.slice x3 n3 y3, .slice x4 n4 y4] 25)) := k2.trans (k3.mono (by simp))
 have g : Below w.heap.size w (((w.alloc (.cells #[.int .i64 io, .bool bc, .slice e1 cn.length f1, .slice e2 cd.length f2, .int .i64 pp] 35)).alloc (.cells #[.slice x1 n1 y1, .slice x2 n2 y2] 25)).alloc (.cells #[.slice x3 n3 y3, .slice x4 n4 y4] 25)) := k1.trans (k23.mono (by simp))
 have E := (boxA_new w #[.int .i64 io, .bool bc, .slice e1 cn.length f1, .slice e2 cd.length f2, .int .i64 pp] 35).below k23 (by simp)
 have X := (boxA_new (w.alloc (.cells #[.int .i64 io, .bool bc, .slice e1 cn.length f1, .slice e2 cd.length f2, .int .i64 pp] 35)) #[.slice x1 n1 y1, .slice x2 n2 y2] 25).below k3 (by simp)
 have Y := boxA_new ((w.alloc (.cells #[.int .i64 io, .bool bc, .slice e1 cn.length f1, .slice e2 cd.length f2, .int .i64 pp] 35)).alloc (.cells #[.slice x1 n1 y1, .slice x2 n2 y2] 25)) #[.slice x3 n3 y3, .slice x4 n4 y4] 25
 have sz2 : ((w.alloc (.cells #[.int .i64 io, .bool bc, .slice e1 cn.length f1, .slice e2 cd.length f2, .int .i64 pp] 35)).alloc (.cells #[.slice x1 n1 y1, .slice x2 n2 y2] 25)).heap.size = w.heap.size + 1 + 1 := by simp
 have sz3 : (((w.alloc (.cells #[.int .i64 io, .bool bc, .slice e1 cn.length f1, .slice e2 cd.length f2, .int .i64 pp] 35)).alloc (.cells #[.slice x1 n1 y1, .slice x2 n2 y2] 25)).alloc (.cells #[.slice x3 n3 y3, .slice x4 n4 y4] 25)).heap.size = w.heap.size + 1 + 1 + 1 := by simp
 rw [World.size_alloc] at X
 rw [sz2] at Y
 have HI : Hid (DyIn D f w bc e1 e2 cn cd f1 f2 x1 x2 x3 x4 n1 y1 n2 y2 n3 y3 n4 y4 t s) := hI
 clear k1 k2 k3 k23 hI
 have q1 := E.cell 1 rfl
 have q2 := E.cell 2 rfl
 have q3 := E.cell 3 rfl
 go_enter Tryz.func18, Tryz.ntmps18
 go_wp2_with fail
 generalize hA : ((w.alloc (.cells #[.int .i64 io, .bool bc, .slice e1 cn.length f1, .slice e2 cd.length f2, .int .i64 pp] 35)).alloc (.cells #[.slice x1 n1 y1, .slice x2 n2 y2] 25)).alloc (.cells #[.slice x3 n3 y3, .slice x4 n4 y4] 25) = v at *
 clear hA q1 q2 q3
 refine (ofTwo_any bc e1 e2 _ _ _ _ v).mono ?_
 rintro e w1 ⟨rfl, hT, b1⟩
 have s1 := b1.size
 have hget : (Instr.lookup 84 (.map (some (v.heap.size + 1))) (.int .i32 gl) false).run Tryz.prog w1 = .ok (.func (.func 137) #[] #[.pointer (some ⟨v.heap.size + d, 0, none⟩)]) w1 := by
  rw [← hK.value v.heap.size]
  exact MapIs.get (k := gl) Tryz.underlying84 Tryz.underlying21 (zero_dyad w1) hT.tab
 have hcf := hK.cell hT
 rw [sz3] at hget hcf
 have HCF : Hid (w1.cell? ⟨w.heap.size + 1 + 1 + 1 + d, 0, none⟩ = some (.func (.func kf) #[] #[])) := hcf
 clear hcf
 have E1 := E.below b1 (by omega)
 have X1 := X.below b1 (by omega)
 have Y1 := Y.below b1 (by omega)
 have g1 : Below w.heap.size w w1 := g.trans (b1.mono g.size)
 have HI1 := HI.out.below g1
 have a0 := X1.cell 0 rfl
 have a1 := X1.cell 1 rfl
 clear hT
 have C1 := right3_any HI1.hD HI1.va
 rw [HI1.ra] at C1
 have HC1 : Hid (Calls Tryz.prog 13 _ w1 _) := C1
 have hnf := eq_nilF
 clear C1 HI1
 go_wp2_with fail
 clear hget a0 a1
 refine HC1.out.mono ?_
 rintro e w2 ⟨rfl, b2⟩
 have s2 := b2.size
 have E2 := E1.below b2 (by omega)
 have Y2 := Y1.below b2 (by omega)
 have g2 : Below w.heap.size w w2 := g1.trans (b2.mono g1.size)
 have HI2 := HI.out.below g2
 have C2 := right3_any HI2.hD HI2.vb
 rw [HI2.rb] at C2
 have HC2 : Hid (Calls Tryz.prog 13 _ w2 _) := C2
 have a0 := Y2.cell 0 rfl
 have a1 := Y2.cell 1 rfl
 clear C2 HI2
 go_wp2_with fail
 clear a0 a1
 refine HC2.out.mono ?_
 rintro e w3 ⟨rfl, b3⟩
 have s3 := b3.size
 have E3 := E2.below b3 (by omega)
 have g3 : Below w.heap.size w w3 := g2.trans (b3.mono g2.size)
 have HI3 := HI.out.below g3
 have HC3 : Hid (Calls Tryz.prog 26 _ w3 _) := right_rat (b := bc) HI3.rn HI3.rd (Nat.le_refl _)
 have a1 := E3.cell 1 rfl
 have a2 := E3.cell 2 rfl
 have a3 := E3.cell 3 rfl
 have HRC : Hid (RightP bc cn cd) := HI3.rc
 clear HI3
 go_wp2_with fail
 clear a1 a2 a3
 refine HC3.out.mono ?_
 rintro e w4 ⟨⟨r, rfl, hr⟩, b4⟩
 obtain rfl := hr.2 HRC.out
 clear hr
 go_wp2
 go_ret2
 have l1 := lt_of_cellT HCF.out
 exact ⟨rfl, ((b4.cell (p := ⟨w.heap.size + 1 + 1 + 1 + d, 0, none⟩) (by show w.heap.size + 1 + 1 + 1 + d < _; omega)).trans ((b3.cell (p := ⟨w.heap.size + 1 + 1 + 1 + d, 0, none⟩) (by show w.heap.size + 1 + 1 + 1 + d < _; omega)).trans ((b2.cell (p := ⟨w.heap.size + 1 + 1 + 1 + d, 0, none⟩) l1).trans HCF.out))), g3.trans (b4.mono g3.size)⟩
end
section
variable {D : Nat → Prop} {f : Nat} {w : World} {io pp : Int} {bc : Bool} {e1 e2 : Option Addr} {cn cd : List Int} {f1 f2 : Nat} {x1 x2 x3 x4 : Option Addr} {n1 y1 n2 y2 n3 y3 n4 y4 : Nat} {t s : Tr} {gl : Int} {kf d : Nat} {op : Bool → Bool → Bool}
set_option maxRecDepth 100000 in
set_option maxHeartbeats 16000000 in
theorem dyadic_log (hK : LogK gl kf op d) (hI : DyIn D f w bc e1 e2 cn cd f1 f2 x1 x2 x3 x4 n1 y1 n2 y2 n3 y3 n4 y4 t s) (hne : t.ns = s.ns) (hs1 : 0 < s.kids.length) {qa qb : List Bool} {L : List Tr} (wA : Bits qa t.kids) (wB : Bits qb s.kids) (hsz : sizeF t.ns = ((t.kids.length : Int), 0)) (hA : 0 < t.kids.length) (hA4 : t.kids.length ≤ 4096) (hL : L.length = t.kids.length) (hLi : ∀ i, i < t.kids.length → L.getD i tr0 = wholeT (bitI (op (qa.getD (i % t.kids.length) false) (qb.getD (i % s.kids.length) false)))) :
    Calls Tryz.prog 7 #[.agg #[.int .i64 io, .bool bc, .slice e1 cn.length f1, .slice e2 cd.length f2, .int .i64 pp], .int .i32 gl, .agg #[.slice x1 n1 y1, .slice x2 n2 y2], .agg #[.slice x3 n3 y3, .slice x4 n4 y4]] w fun e w' => ∃ x5 y5 b3 d3, e = .returned (.tuple #[.agg #[.slice x5 t.ns.length y5, .slice b3 t.kids.length d3], .int .i64 0]) ∧ ArV 1 (Fr w.heap.size w'.heap.size) w' (.slice x5 t.ns.length y5) (.slice b3 t.kids.length d3) (arrT t.ns L) ∧ Below w.heap.size w w' := by
 obtain ⟨f, rfl⟩ : ∃ f', f = f' + 1 := by
  cases f with
  | zero => exact hI.va.elim
  | succ f => exact ⟨f, rfl⟩
 have en1 := hI.va.1.len
 have en2 := hI.va.2.len
 have en3 := hI.vb.1.len
 have en4 := hI.vb.2.len
 subst en1
 subst en2
 subst en3
 subst en4
 have k1 := below_alloc w (.cells #[.int .i64 io, .bool bc, .slice e1 cn.length f1, .slice e2 cd.length f2, .int .i64 pp] 35)
 have k2 := below_alloc (w.alloc (.cells #[.int .i64 io, .bool bc, .slice e1 cn.length f1, .slice e2 cd.length f2, .int .i64 pp] 35)) (.cells #[.slice x1 t.ns.length y1, .slice x2 t.kids.length y2] 25)
 have k3 := below_alloc ((w.alloc (.cells #[.int .i64 io, .bool bc, .slice e1 cn.length f1, .slice e2 cd.length f2, .int .i64 pp] 35)).alloc (.cells #[.slice x1 t.ns.length y1, .slice x2 t.kids.length y2] 25)) (.cells #[.slice x3 s.ns.length y3, .slice x4 s.kids.length y4] 25)
 have k4 := below_alloc (((w.alloc (.cells #[.int .i64 io, .bool bc, .slice e1 cn.length f1, .slice e2 cd.length f2, .int .i64 pp] 35)).alloc (.cells #[.slice x1 t.ns.length y1, .slice x2 t.kids.length y2] 25)).alloc (.cells #[.slice x3 s.ns.length y3, .slice x4 s.kids.length y4] 25)) (.cells #[.slice none 0 0, .slice none 0 0] 25)
 have k34 : Below ((w.alloc (.cells #[.int .i64 io, .bool bc, .slice e1 cn.length f1, .slice e2 cd.length f2, .int .i64 pp] 35)).alloc (.cells #[.slice x1 t.ns.length y1, .slice x2 t.kids.length y2] 25)).heap.size ((w.alloc (.cells #[.int .i64 io, .bool bc, .slice e1 cn.length f1, .slice e2 cd.length f2, .int .i64 pp] 35)).alloc (.cells #[.slice x1 t.ns.length y1, .slice x2 t.kids.length y2] 25)) ((((w.alloc (.cells #[.int .i64 io, .bool bc, .slice e1 cn.length f1, .slice e2 cd.length f2, .int .i64 pp] 35)).alloc (.cells #[.slice x1 t.ns.length y1, .slice x2 t.kids.length y2] 25)).alloc (.cells #[.slice x3 s.ns.length y3, .slice x4 s.kids.length y4] 25)).alloc (.cells #[.slice none 0 0, .slice none 0 0] 25)) := k3.trans (k4.mono (by simp))
 have k24 : Below (w.alloc (.cells #[.int .i64 io, .bool bc, .slice e1 cn.length f1, .slice e2 cd.length f2, .int .i64 pp] 35)).heap.size (w.alloc (.cells #[.int .i64 io, .bool bc, .slice e1 cn.length f1, .slice e2 cd.length f2, .int .i64 pp] 35)) ((((w.alloc (.cells #[.int .i64 io, .bool bc, .slice e1 cn.length f1, .slice e2 cd.length f2, .int .i64 pp] 35)).alloc (.cells #[.slice x1 t.ns.length y1, .slice x2 t.kids.length y2] 25)).alloc (.cells #[.slice x3 s.ns.length y3, .slice x4 s.kids.length y4] 25)).alloc (.cells #[.slice none 0 0, .slice none 0 0] 25)) := k2.trans (k34.mono (by simp))
 have g : Below w.heap.size w ((((w.alloc (.cells #[.int .i64 io, .bool bc, .slice e1 cn.length f1, .slice e2 cd.length f2, .int .i64 pp] 35)).alloc (.cells #[.slice x1 t.ns.length y1, .slice x2 t.kids.length y2] 25)).alloc (.cells #[.slice x3 s.ns.length y3, .slice x4 s.kids.length y4] 25)).alloc (.cells #[.slice none 0 0, .slice none 0 0] 25)) := k1.trans (k24.mono (by simp))
 have E := (boxA_new w #[.int .i64 io, .bool bc, .slice e1 cn.length f1, .slice e2 cd.length f2, .int .i64 pp] 35).below k24 (by simp)
 have X := (boxA_new (w.alloc (.cells #[.int .i64 io, .bool bc, .slice e1 cn.length f1, .slice e2 cd.length f2, .int .i64 pp] 35)) #[.slice x1 t.ns.length y1, .slice x2 t.kids.length y2] 25).below k34 (by simp)
 have Y := (boxA_new ((w.alloc (.cells #[.int .i64 io, .bool bc, .slice e1 cn.length f1, .slice e2 cd.length f2, .int .i64 pp] 35)).alloc (.cells #[.slice x1 t.ns.length y1, .slice x2 t.kids.length y2] 25)) #[.slice x3 s.ns.length y3, .slice x4 s.kids.length y4] 25).below k4 (by simp)
 have R := boxA_new (((w.alloc (.cells #[.int .i64 io, .bool bc, .slice e1 cn.length f1, .slice e2 cd.length f2, .int .i64 pp] 35)).alloc (.cells #[.slice x1 t.ns.length y1, .slice x2 t.kids.length y2] 25)).alloc (.cells #[.slice x3 s.ns.length y3, .slice x4 s.kids.length y4] 25)) #[.slice none 0 0, .slice none 0 0] 25
 have sz2 : ((w.alloc (.cells #[.int .i64 io, .bool bc, .slice e1 cn.length f1, .slice e2 cd.length f2, .int .i64 pp] 35)).alloc (.cells #[.slice x1 t.ns.length y1, .slice x2 t.kids.length y2] 25)).heap.size = w.heap.size + 1 + 1 := by simp
 have sz3 : (((w.alloc (.cells #[.int .i64 io, .bool bc, .slice e1 cn.length f1, .slice e2 cd.length f2, .int .i64 pp] 35)).alloc (.cells #[.slice x1 t.ns.length y1, .slice x2 t.kids.length y2] 25)).alloc (.cells #[.slice x3 s.ns.length y3, .slice x4 s.kids.length y4] 25)).heap.size = w.heap.size + 1 + 1 + 1 := by simp
 have sz4 : ((((w.alloc (.cells #[.int .i64 io, .bool bc, .slice e1 cn.length f1, .slice e2 cd.length f2, .int .i64 pp] 35)).alloc (.cells #[.slice x1 t.ns.length y1, .slice x2 t.kids.length y2] 25)).alloc (.cells #[.slice x3 s.ns.length y3, .slice x4 s.kids.length y4] 25)).alloc (.cells #[.slice none 0 0, .slice none 0 0] 25)).heap.size = w.heap.size + 1 + 1 + 1 + 1 := by simp
 rw [World.size_alloc] at X
 rw [sz2] at Y
 rw [sz3] at R
 have HI : Hid (DyIn D (f + 1) w bc e1 e2 cn cd f1 f2 x1 x2 x3 x4 t.ns.length y1 t.kids.length y2 s.ns.length y3 s.kids.length y4 t s) := hI
 have HNE : Hid (t.ns = s.ns) := hne
 clear k1 k2 k3 k4 k34 k24 hI hne
 have HwA : Hid (Bits qa t.kids) := wA
 have HwB : Hid (Bits qb s.kids) := wB
 have Hsz : Hid (sizeF t.ns = ((t.kids.length : Int), 0)) := hsz
 have HL : Hid (L.length = t.kids.length) := hL
 have HLi : Hid (∀ i, i < t.kids.length → L.getD i tr0 = wholeT (bitI (op (qa.getD (i % t.kids.length) false) (qb.getD (i % s.kids.length) false)))) := hLi
 have HS1 : Hid (0 < s.kids.length) := hs1
 have HA : Hid (0 < t.kids.length ∧ t.kids.length ≤ 4096) := ⟨hA, hA4⟩
 clear wA wB hsz hL hLi hs1 hA hA4
 have q0 := E.cell 0 rfl
 have q1 := E.cell 1 rfl
 have q2 := E.cell 2 rfl
 have q3 := E.cell 3 rfl
 have q4 := E.cell 4 rfl
 have a0 := X.cell 0 rfl
 have a1 := X.cell 1 rfl
 have b0 := Y.cell 0 rfl
 have b1 := Y.cell 1 rfl
 go_enter Tryz.func7, Tryz.ntmps7
 go_wp2_with fail
 generalize hA' : (((w.alloc (.cells #[.int .i64 io, .bool bc, .slice e1 cn.length f1, .slice e2 cd.length f2, .int .i64 pp] 35)).alloc (.cells #[.slice x1 t.ns.length y1, .slice x2 t.kids.length y2] 25)).alloc (.cells #[.slice x3 s.ns.length y3, .slice x4 s.kids.length y4] 25)).alloc (.cells #[.slice none 0 0, .slice none 0 0] 25) = v at *
 clear hA' q0 q1 q2 q3 q4 a0 a1 b0 b1
 refine (dyadOf_log hK (HI.out.below g)).mono ?_
 rintro e w1 ⟨rfl, hf1, p1⟩
 obtain ⟨bh, hbh⟩ : ∃ b, v.heap.size + 1 + 1 + 1 + d = b := ⟨_, rfl⟩
 rw [hbh] at hf1
 rw [hbh]
 have HF1 : Hid (w1.cell? ⟨bh, 0, none⟩ = some (.func (.func kf) #[] #[])) := hf1
 clear hf1 hbh
 have s1 := p1.size
 have X1 := X.below p1 (by omega)
 have Y1 := Y.below p1 (by omega)
 have R1 := R.below p1 (by omega)
 have g1 : Below w.heap.size w w1 := g.trans (p1.mono g.size)
 have HI1 := HI.out.below g1
 have HC1 := together_same (D := D) (w := w1) (x2 := x2) (n2 := t.kids.length) (y2 := y2) (x4 := x4) (n4 := s.kids.length) (y4 := y4) HI1.hD HI1.va.1 HI1.vb.1 HNE.out
 have a0 := X1.cell 0 rfl
 have a1 := X1.cell 1 rfl
 have b0 := Y1.cell 0 rfl
 have b1 := Y1.cell 1 rfl
 clear HI1
 go_wp2_with fail
 clear a0 a1 b0 b1
 refine HC1.mono ?_
 rintro e w2 ⟨rfl, p2⟩
 have s2 := p2.size
 have X2 := X1.below p2 (by omega)
 have Y2 := Y1.below p2 (by omega)
 have R2 := R1.below p2 (by omega)
 have g2 : Below w.heap.size w w2 := g1.trans (p2.mono g1.size)
 have a0 := X2.cell 0 rfl
 have a1 := X2.cell 1 rfl
 have b0 := Y2.cell 0 rfl
 have b1 := Y2.cell 1 rfl
 have p3 := below_alloc w2 (.cells #[.slice x1 t.ns.length y1, .slice x2 t.kids.length y2] 25)
 have p4 := below_alloc (w2.alloc (.cells #[.slice x1 t.ns.length y1, .slice x2 t.kids.length y2] 25)) (.cells #[.slice x3 s.ns.length y3, .slice x4 s.kids.length y4] 25)
 have p34 : Below w2.heap.size w2 ((w2.alloc (.cells #[.slice x1 t.ns.length y1, .slice x2 t.kids.length y2] 25)).alloc (.cells #[.slice x3 s.ns.length y3, .slice x4 s.kids.length y4] 25)) := p3.trans (p4.mono (by simp))
 have XA := (boxA_new w2 #[.slice x1 t.ns.length y1, .slice x2 t.kids.length y2] 25).below p4 (by simp)
 have YB := boxA_new (w2.alloc (.cells #[.slice x1 t.ns.length y1, .slice x2 t.kids.length y2] 25)) #[.slice x3 s.ns.length y3, .slice x4 s.kids.length y4] 25
 rw [World.size_alloc] at YB
 have sz6 : ((w2.alloc (.cells #[.slice x1 t.ns.length y1, .slice x2 t.kids.length y2] 25)).alloc (.cells #[.slice x3 s.ns.length y3, .slice x4 s.kids.length y4] 25)).heap.size = w2.heap.size + 1 + 1 := by simp
 have g4 : Below w.heap.size w ((w2.alloc (.cells #[.slice x1 t.ns.length y1, .slice x2 t.kids.length y2] 25)).alloc (.cells #[.slice x3 s.ns.length y3, .slice x4 s.kids.length y4] 25)) := g2.trans (p34.mono g2.size)
 have R4 := R2.below p34 (by omega)
 have HI4 := HI.out.below g4
 have hf2 := (p2.cell (p := ⟨bh, 0, none⟩) (lt_of_cellT HF1.out)).trans HF1.out
 have hf4 := (p34.cell (p := ⟨bh, 0, none⟩) (lt_of_cellT hf2)).trans hf2
 clear hf2
 go_wp2_with fail
 clear a0 a1 b0 b1
 refine (pairsOf_any (w := w2)).mono ?_
 rintro e w5 ⟨rfl, hw5⟩
 rw [← hw5] at XA YB sz6 g4 R4 HI4 hf4
 have HF5 : Hid (w5.cell? ⟨bh, 0, none⟩ = some (.func (.func kf) #[] #[])) := hf4
 have HI5 : Hid (DyIn D (f + 1) w5 bc e1 e2 cn cd f1 f2 x1 x2 x3 x4 t.ns.length y1 t.kids.length y2 s.ns.length y3 s.kids.length y4 t s) := HI4
 clear hw5 p3 p4 p34 HI4 hf4
 obtain ⟨gA, oA, eA, hgA, hcA⟩ := HI5.out.va.2.ptr HA.out.1
 obtain ⟨gB, oB, eB, hgB, hcB⟩ := HI5.out.vb.2.ptr (by have := HS1.out; omega)
 have HC5 := whole_log (L := L) hK.glyph hK.holds HF5.out HI5.out.hD hgA hgB hcA hcB HwA.out HwB.out HA.out.1 (by have := HS1.out; omega) (by rw [← eA]; exact XA.cell 1 rfl) (by rw [← eB]; exact YB.cell 1 rfl) HI5.out.va.1 Hsz.out HA.out.1 HA.out.2 HL.out HLi.out
 clear hcA hcB
 have HC6 : Hid (Calls Tryz.prog 20 _ w5 _) := HC5
 clear HC5
 have s5 : w2.heap.size ≤ w5.heap.size := by omega
 have s5' : w5.heap.size ≤ w2.heap.size + 1 + 1 := by omega
 clear sz6
 go_wp2_with fail
 refine HC6.out.mono ?_
 rintro e w6 ⟨x5, y5, b3, d3, rfl, hv, p6⟩
 have s6 := p6.size
 have R6 := R4.below p6 (by omega)
 have HV : Hid (ArV 1 (Fr w5.heap.size w6.heap.size) w6 (.slice x5 t.ns.length y5) (.slice b3 t.kids.length d3) (arrT t.ns L)) := hv
 have g6 : Below w.heap.size w w6 := g4.trans (p6.mono g4.size)
 clear hv
 have r0 := R6.cell 0 rfl
 have r1 := R6.cell 1 rfl
 have f0 := R6.frozen 0
 have f1' := R6.frozen 1
 have Q := boxA_s1 (boxA_s0 R6 (.slice x5 t.ns.length y5)) (.slice b3 t.kids.length d3)
 have j0 := Q.cell 0 rfl
 have j1 := Q.cell 1 rfl
 go_wp2
 refine bodyPost_ret (v := .tuple #[.agg #[.slice x5 t.ns.length y5, .slice b3 t.kids.length d3], .int .i64 0]) (by simp [results, Tryz.results7, go_sem, j0, j1]) rfl ?_
 refine ⟨x5, y5, b3, d3, rfl, ArV.imp (fun q hq => ⟨by have := hq.1; omega, by rw [set1_size, set1_size]; exact hq.2⟩) (fun q hq => by rw [set1_other (by show ¬ w.heap.size + 1 + 1 + 1 = q; have := hq.1; omega), set1_other (by show ¬ w.heap.size + 1 + 1 + 1 = q; have := hq.1; omega)]) 1 1 _ _ _ (Nat.le_refl _) HV.out, Below.set2 g6 (by omega) _ _⟩
end
end Go.Proofs.YtmijanocljmaeaaGreat

/- scalar.not, throughItem: of bits. -/
namespace Go.Proofs.YtmijanocljmaeaaGreat
set_option linter.unusedVariables false
set_option linter.unusedSimpArgs false
open Go.RowKit

section
variable {w : World} {h : Bool} {a1 a2 a3 : Option Addr} {c1 c2 n3 c3 : Nat} {c : Int}
set_option maxRecDepth 100000 in
set_option maxHeartbeats 16000000 in
theorem not_bit (h1 : Rd w.heap.size w (.slice a1 (bitL h).length c1) (bitL h)) (h2 : Rd w.heap.size w (.slice a2 1 c2) [1]) : Calls Tryz.prog 57 #[.agg #[.bool false, .slice a1 (bitL h).length c1, .slice a2 1 c2]] w fun e w' => NumR w.heap.size (fun b ns ds => numT b ns ds = wholeT (bitI (!h))) e w' ∧ Below w.heap.size w w' := by
 have k1 := below_alloc w (.cells #[.bool false, .slice a1 (bitL h).length c1, .slice a2 1 c2] 33)
 have k2 := below_alloc (w.alloc (.cells #[.bool false, .slice a1 (bitL h).length c1, .slice a2 1 c2] 33)) (.cells #[.bool false, .slice none 0 0, .slice none 0 0] 33)
 have g : Below w.heap.size w ((w.alloc (.cells #[.bool false, .slice a1 (bitL h).length c1, .slice a2 1 c2] 33)).alloc (.cells #[.bool false, .slice none 0 0, .slice none 0 0] 33)) := k1.trans (k2.mono (by simp))
 have Xb := (boxA_new w #[.bool false, .slice a1 (bitL h).length c1, .slice a2 1 c2] 33).below k2 (by simp)
 have R := boxA_new (w.alloc (.cells #[.bool false, .slice a1 (bitL h).length c1, .slice a2 1 c2] 33)) #[.bool false, .slice none 0 0, .slice none 0 0] 33
 rw [World.size_alloc] at R
 have sz : ((w.alloc (.cells #[.bool false, .slice a1 (bitL h).length c1, .slice a2 1 c2] 33)).alloc (.cells #[.bool false, .slice none 0 0, .slice none 0 0] 33)).heap.size = w.heap.size + 1 + 1 := by simp
 have C1 := isBit_bit (h := h) (Xb.cell 0 rfl) (Xb.cell 1 rfl) (Xb.cell 2 rfl) ((h1.below g).mono g.size) ((h2.below g).mono g.size)
 have C2 := isZero_bit (h := h) (Xb.cell 1 rfl)
 clear k1 k2 h1 h2 Xb
 go_enter Tryz.func57, Tryz.ntmps57
 go_wp2_with fail
 generalize hA : ((w.alloc (.cells #[.bool false, .slice a1 (bitL h).length c1, .slice a2 1 c2] 33)).alloc (.cells #[.bool false, .slice none 0 0, .slice none 0 0] 33)) = v at *
 clear hA
 refine C1.mono ?_
 rintro e w1 ⟨rfl, hw1⟩
 obtain rfl := hw1.symm
 clear hw1 C1
 go_wp2_with fail
 refine C2.mono ?_
 rintro e w1 ⟨rfl, hw1⟩
 obtain rfl := hw1.symm
 clear hw1 C2
 go_wp2_with fail
 refine (truth_bit _ _).mono ?_
 rintro e w4 ⟨⟨b, z1, ns, u1, z2, ds, u2, rfl, ho1, ho2, hT⟩, q4⟩
 have R2 := R.below q4 (by omega)
 have r0 := R2.cell 0 rfl
 have r1 := R2.cell 1 rfl
 have r2 := R2.cell 2 rfl
 have f0 := R2.frozen 0
 have f1 := R2.frozen 1
 have f2 := R2.frozen 2
 have R3 := ((R2.put 0 (.bool b)).put 1 (.slice z1 ns.length u1)).put 2 (.slice z2 ds.length u2)
 have y0 := R3.cell 0 rfl
 have y1 := R3.cell 1 rfl
 have y2 := R3.cell 2 rfl
 have HO1 : Hid (Own v.heap.size w4 (.slice z1 ns.length u1) ns) := ho1
 have HO2 : Hid (Own v.heap.size w4 (.slice z2 ds.length u2) ds) := ho2
 clear ho1 ho2
 go_wp2
 refine bodyPost_ret (v := .tuple #[.agg #[.bool b, .slice z1 ns.length u1, .slice z2 ds.length u2], .int .i64 0]) (by simp [results, Tryz.results57, go_sem, y0, y1, y2]) rfl ?_
 exact ⟨⟨b, z1, ns, u1, z2, ds, u2, rfl, (HO1.out.set3 (by omega) _ _ _).mono (by omega), (HO2.out.set3 (by omega) _ _ _).mono (by omega), hT⟩, Below.set3 (g.trans (q4.mono g.size)) (by omega) _ _ _⟩
set_option maxRecDepth 100000 in
set_option maxHeartbeats 16000000 in
theorem throughItem_not (h1 : Rd w.heap.size w (.slice a1 (bitL h).length c1) (bitL h)) (h2 : Rd w.heap.size w (.slice a2 1 c2) [1]) : Calls Tryz.prog 64 #[.func (.func 57) #[] #[], .agg #[.int .u8 1, .bool false, .slice a1 (bitL h).length c1, .slice a2 1 c2, .int .i32 c, .slice a3 n3 c3]] w fun e w' => ItemR w.heap.size (fun b ns ds => numT b ns ds = wholeT (bitI (!h))) e w' ∧ Below w.heap.size w w' := by
 have k1 := below_alloc w (.cells #[.int .u8 1, .bool false, .slice a1 (bitL h).length c1, .slice a2 1 c2, .int .i32 c, .slice a3 n3 c3] 63)
 have k2 := below_alloc (w.alloc (.cells #[.int .u8 1, .bool false, .slice a1 (bitL h).length c1, .slice a2 1 c2, .int .i32 c, .slice a3 n3 c3] 63)) (.cells #[.int .u8 0, .bool false, .slice none 0 0, .slice none 0 0, .int .i32 0, .slice none 0 0] 63)
 have g : Below w.heap.size w ((w.alloc (.cells #[.int .u8 1, .bool false, .slice a1 (bitL h).length c1, .slice a2 1 c2, .int .i32 c, .slice a3 n3 c3] 63)).alloc (.cells #[.int .u8 0, .bool false, .slice none 0 0, .slice none 0 0, .int .i32 0, .slice none 0 0] 63)) := k1.trans (k2.mono (by simp))
 have Xb := (boxA_new w #[.int .u8 1, .bool false, .slice a1 (bitL h).length c1, .slice a2 1 c2, .int .i32 c, .slice a3 n3 c3] 63).below k2 (by simp)
 have R := boxA_new (w.alloc (.cells #[.int .u8 1, .bool false, .slice a1 (bitL h).length c1, .slice a2 1 c2, .int .i32 c, .slice a3 n3 c3] 63)) #[.int .u8 0, .bool false, .slice none 0 0, .slice none 0 0, .int .i32 0, .slice none 0 0] 63
 rw [World.size_alloc] at R
 have sz : ((w.alloc (.cells #[.int .u8 1, .bool false, .slice a1 (bitL h).length c1, .slice a2 1 c2, .int .i32 c, .slice a3 n3 c3] 63)).alloc (.cells #[.int .u8 0, .bool false, .slice none 0 0, .slice none 0 0, .int .i32 0, .slice none 0 0] 63)).heap.size = w.heap.size + 1 + 1 := by simp
 have C1 := not_bit ((h1.below g).mono g.size) ((h2.below g).mono g.size)
 have x0 := Xb.cell 0 rfl
 have x1 := Xb.cell 1 rfl
 have x2 := Xb.cell 2 rfl
 have x3 := Xb.cell 3 rfl
 clear k1 k2 h1 h2 Xb
 go_enter Tryz.func64, Tryz.ntmps64
 go_wp2_with fail
 generalize hA : ((w.alloc (.cells #[.int .u8 1, .bool false, .slice a1 (bitL h).length c1, .slice a2 1 c2, .int .i32 c, .slice a3 n3 c3] 63)).alloc (.cells #[.int .u8 0, .bool false, .slice none 0 0, .slice none 0 0, .int .i32 0, .slice none 0 0] 63)) = v at *
 clear hA x0 x1 x2 x3
 refine C1.mono ?_
 rintro e w1 ⟨⟨b, z1, ns, u1, z2, ds, u2, rfl, ho1, ho2, hT⟩, q1⟩
 clear C1
 have k3 := below_alloc w1 (.cells #[.bool b, .slice z1 ns.length u1, .slice z2 ds.length u2] 33)
 have Nb := boxA_new w1 #[.bool b, .slice z1 ns.length u1, .slice z2 ds.length u2] 33
 have y0 := Nb.cell 0 rfl
 have y1 := Nb.cell 1 rfl
 have y2 := Nb.cell 2 rfl
 have g2 : Below w.heap.size w (w1.alloc (.cells #[.bool b, .slice z1 ns.length u1, .slice z2 ds.length u2] 33)) := (g.trans (q1.mono g.size)).trans (k3.mono (by have := q1.size; omega))
 have s1 := q1.size
 have s3 : (w1.alloc (.cells #[.bool b, .slice z1 ns.length u1, .slice z2 ds.length u2] 33)).heap.size = w1.heap.size + 1 := by simp
 have R2 := (R.below q1 (by omega)).below k3 (by omega)
 have HO1 : Hid (Own v.heap.size (w1.alloc (.cells #[.bool b, .slice z1 ns.length u1, .slice z2 ds.length u2] 33)) (.slice z1 ns.length u1) ns) := ho1.below k3 (Nat.le_refl _)
 have HO2 : Hid (Own v.heap.size (w1.alloc (.cells #[.bool b, .slice z1 ns.length u1, .slice z2 ds.length u2] 33)) (.slice z2 ds.length u2) ds) := ho2.below k3 (Nat.le_refl _)
 clear ho1 ho2 k3
 go_wp2_with fail
 generalize hB : w1.alloc (.cells #[.bool b, .slice z1 ns.length u1, .slice z2 ds.length u2] 33) = u at *
 clear hB y0 y1 y2
 refine numbered_ok.mono ?_
 rintro e w2 ⟨rfl, q2⟩
 have s2 := q2.size
 have R3 := R2.below q2 (by omega)
 have r0 := R3.cell 0 rfl
 have r1 := R3.cell 1 rfl
 have r2 := R3.cell 2 rfl
 have r3 := R3.cell 3 rfl
 have r4 := R3.cell 4 rfl
 have r5 := R3.cell 5 rfl
 have f0 := R3.frozen 0
 have f1 := R3.frozen 1
 have f2 := R3.frozen 2
 have f3 := R3.frozen 3
 have f4 := R3.frozen 4
 have f5 := R3.frozen 5
 have R6 := R3.set6 (.int .u8 1) (.bool b) (.slice z1 ns.length u1) (.slice z2 ds.length u2) (.int .i32 0) (.slice none 0 0)
 have j0 := R6.cell 0 rfl
 have j1 := R6.cell 1 rfl
 have j2 := R6.cell 2 rfl
 have j3 := R6.cell 3 rfl
 have j4 := R6.cell 4 rfl
 have j5 := R6.cell 5 rfl
 go_wp2
 refine bodyPost_ret (v := .tuple #[.agg #[.int .u8 1, .bool b, .slice z1 ns.length u1, .slice z2 ds.length u2, .int .i32 0, .slice none 0 0], .int .i64 0]) (by simp [results, Tryz.results64, go_sem, j0, j1, j2, j3, j4, j5]) rfl ?_
 exact ⟨⟨b, z1, ns, u1, z2, ds, u2, rfl, ((HO1.out.below q2 (by omega)).set6 (by omega) _ _ _ _ _ _).mono (by omega), ((HO2.out.below q2 (by omega)).set6 (by omega) _ _ _ _ _ _).mono (by omega), hT⟩, Below.set6 (g2.trans (q2.mono g2.size)) (by omega) _ _ _ _ _ _⟩
end
end Go.Proofs.YtmijanocljmaeaaGreat

/- scalar.through at not, of a row of bits. -/
namespace Go.Proofs.YtmijanocljmaeaaGreat
set_option linter.unusedVariables false
set_option linter.unusedSimpArgs false
open Go.RowKit

section
variable {w : World} {gS oS y1 : Nat} {n2 y2 : Nat} {x2 : Option Addr} {q : Int}
set_option maxRecDepth 100000 in
set_option maxHeartbeats 16000000 in
theorem contains_one (hc : w.cell? ⟨gS, oS, none⟩ = some (.int .i64 q)) : Calls Tryz.prog 116 #[.slice (some ⟨gS, oS, none⟩) 1 y1, .int .i64 0] w fun e w' => e = .returned (.bool (decide (q = 0))) ∧ w' = w := by
 by_cases hq : q = 0
 · subst hq
   have hI : Calls Tryz.prog 151 #[.slice (some ⟨gS, oS, none⟩) 1 y1, .int .i64 0] w fun e w' => e = .returned (.int .i64 0) ∧ w' = w := by
    go_enter Tryz.func151, Tryz.ntmps151
    go_wp2
    go_loopw [8] (fun s wr => wr = w ∧ s = .int .i64 0) (fun _ _ => 0)
    case atStart => exact ⟨rfl, rfl⟩
    case round =>
     obtain ⟨rfl, rfl⟩ := hrel
     go_wp2
     go_ret
     exact ⟨rfl, rfl⟩
   go_enter Tryz.func116, Tryz.ntmps116
   go_wp2_with fail
   refine hI.mono ?_
   rintro e w' ⟨rfl, hw⟩
   obtain rfl := hw.symm
   go_wp2
   go_ret
   exact ⟨rfl, rfl⟩
 · have hq1 : (q == 0) = false := by rw [beq_eq_false_iff_ne]; exact hq
   have hq2 : ((0 : Int) == q) = false := by rw [beq_eq_false_iff_ne]; exact fun e => hq e.symm
   have hI : Calls Tryz.prog 151 #[.slice (some ⟨gS, oS, none⟩) 1 y1, .int .i64 0] w fun e w' => e = .returned (.int .i64 (-1)) ∧ w' = w := by
    go_enter Tryz.func151, Tryz.ntmps151
    go_wp2
    go_loopw [8] (fun s wr => wr = w ∧ (s = .int .i64 0 ∨ s = .int .i64 1)) (fun s _ => 1 - (intOf s).toNat)
    case atStart => exact ⟨rfl, Or.inl rfl⟩
    case round =>
     obtain ⟨rfl, rfl | rfl⟩ := hrel
     · go_wp2
       go_roundw
       case rel => first | exact ⟨rfl, Or.inr rfl⟩ | simp
       case measure => simp [intOf]
     · go_wp2
       go_ret
       exact ⟨rfl, rfl⟩
   go_enter Tryz.func116, Tryz.ntmps116
   go_wp2_with fail
   refine hI.mono ?_
   rintro e w' ⟨rfl, hw⟩
   obtain rfl := hw.symm
   go_wp2
   go_ret
   exact ⟨by simp [hq], rfl⟩
set_option maxRecDepth 100000 in
set_option maxHeartbeats 16000000 in
theorem isEmpty_vec (hc : w.cell? ⟨gS, oS, none⟩ = some (.int .i64 q)) : Calls Tryz.prog 61 #[.agg #[.slice (some ⟨gS, oS, none⟩) 1 y1, .slice x2 n2 y2]] w fun e w' => e = .returned (.bool (decide (q = 0))) ∧ Below w.heap.size w w' := by
 have k0 := below_alloc w (.cells #[.slice (some ⟨gS, oS, none⟩) 1 y1, .slice x2 n2 y2] 25)
 have X := boxA_new w #[.slice (some ⟨gS, oS, none⟩) 1 y1, .slice x2 n2 y2] 25
 have z0 := X.cell 0 rfl
 have C1 := contains_one (y1 := y1) ((k0.cell (p := ⟨gS, oS, none⟩) (lt_of_cellT hc)).trans hc)
 go_enter Tryz.func61, Tryz.ntmps61
 go_wp2_with fail
 refine C1.mono ?_
 rintro e w' ⟨rfl, hw⟩
 obtain rfl := hw.symm
 go_wp2
 go_ret
 exact ⟨rfl, k0⟩
end
section
variable {D : Nat → Prop} {f : Nat} {w : World} {gS oS y1 gA oA cA n : Nat} {la L : List Tr} {qa : List Bool}
set_option maxRecDepth 100000 in
set_option maxHeartbeats 16000000 in
theorem through_not (hD : ∀ g, D g → g < w.heap.size) (hsh : RdN D w (.slice (some ⟨gS, oS, none⟩) 1 y1) [(n : Int)]) (hgA : D gA) (hcA : ∀ j, j < la.length → ItC (ArV f D w) D w gA (oA + j * 6) (la.getD j tr0)) (hlA : la.length = n) (wA : Bits qa la) (hn : 0 < n) (hn4 : n ≤ 4096) (hL : L.length = n) (hLi : ∀ i, i < n → L.getD i tr0 = wholeT (bitI (!(qa.getD i false)))) :
    Calls Tryz.prog 27 #[.func (.func 57) #[] #[], .agg #[.slice (some ⟨gS, oS, none⟩) 1 y1, .slice (some ⟨gA, oA, none⟩) n cA]] w fun e w' => ∃ x5 y5 b3 d3, e = .returned (.tuple #[.agg #[.slice x5 1 y5, .slice b3 n d3], .int .i64 0]) ∧ ArV 1 (Fr w.heap.size w'.heap.size) w' (.slice x5 1 y5) (.slice b3 n d3) (arrT [(n : Int)] L) ∧ Below w.heap.size w w' := by
 have k1 := below_alloc w (.cells #[.slice (some ⟨gS, oS, none⟩) 1 y1, .slice (some ⟨gA, oA, none⟩) n cA] 25)
 have k2 := below_alloc (w.alloc (.cells #[.slice (some ⟨gS, oS, none⟩) 1 y1, .slice (some ⟨gA, oA, none⟩) n cA] 25)) (.cells #[.slice none 0 0, .slice none 0 0] 25)
 have g : Below w.heap.size w ((w.alloc (.cells #[.slice (some ⟨gS, oS, none⟩) 1 y1, .slice (some ⟨gA, oA, none⟩) n cA] 25)).alloc (.cells #[.slice none 0 0, .slice none 0 0] 25)) := k1.trans (k2.mono (by simp))
 have X0 := (boxA_new w #[.slice (some ⟨gS, oS, none⟩) 1 y1, .slice (some ⟨gA, oA, none⟩) n cA] 25).below k2 (by simp)
 have R0 := boxA_new (w.alloc (.cells #[.slice (some ⟨gS, oS, none⟩) 1 y1, .slice (some ⟨gA, oA, none⟩) n cA] 25)) #[.slice none 0 0, .slice none 0 0] 25
 rw [World.size_alloc] at R0
 have sv : ((w.alloc (.cells #[.slice (some ⟨gS, oS, none⟩) 1 y1, .slice (some ⟨gA, oA, none⟩) n cA] 25)).alloc (.cells #[.slice none 0 0, .slice none 0 0] 25)).heap.size = w.heap.size + 1 + 1 := by simp
 have HD : Hid (∀ g, D g → g < w.heap.size) := hD
 have HcA : Hid (∀ j, j < n → ItC (ArV f D w) D w gA (oA + j * 6) (la.getD j tr0)) := fun j hj => hcA j (by omega)
 have HwA : Hid (∀ j, j < n → la.getD j tr0 = numT false (bitL (qa.getD j false)) [1]) := fun j hj => wA.at (by omega)
 have HLi : Hid (∀ i, i < n → L.getD i tr0 = wholeT (bitI (!(qa.getD i false)))) := hLi
 have HL : Hid (L.length = n) := hL
 have hsh1 := hsh.imp (fun _ h => h) (Agree.of g hD)
 have hcS : w.cell? ⟨gS, oS, none⟩ = some (.int .i64 (n : Int)) := by
  obtain ⟨_, a, cap, e, _, _, _, hc⟩ := hsh
  cases e
  rcases hc with h0 | ⟨b, off, e, hb, hj⟩
  · simp at h0
  · cases e; simpa using hj 0 (by simp)
 have lS := lt_of_cellT hcS
 have lA : gA < w.heap.size := hD gA hgA
 clear hcA hlA wA hLi hL hD hsh k1 k2
 have C1 := isEmpty_vec (y1 := y1) (x2 := some ⟨gA, oA, none⟩) (n2 := n) (y2 := cA) ((g.cell (p := ⟨gS, oS, none⟩) lS).trans hcS)
 rw [decide_eq_false (by omega : ¬ (n : Int) = 0)] at C1
 clear hcS
 have x0 := X0.cell 0 rfl
 have x1 := X0.cell 1 rfl
 go_enter Tryz.func27, Tryz.ntmps27
 go_wp2_with fail
 generalize hA : ((w.alloc (.cells #[.slice (some ⟨gS, oS, none⟩) 1 y1, .slice (some ⟨gA, oA, none⟩) n cA] 25)).alloc (.cells #[.slice none 0 0, .slice none 0 0] 25)) = v at *
 clear hA x0 x1
 refine C1.mono ?_
 rintro e w1 ⟨rfl, q1⟩
 clear C1
 have s1 := q1.size
 have X1 := X0.below q1 (by omega)
 have R1 := R0.below q1 (by omega)
 have g1 : Below w.heap.size w w1 := g.trans (q1.mono g.size)
 have C2 := copyOf5_any (ns := [(n : Int)]) (hsh1.imp (fun _ h => h) (Agree.of q1 (fun q hq => by have := HD.out q hq; omega))) (by simp)
 clear hsh1
 have x0 := X1.cell 0 rfl
 go_wp2_with fail
 clear x0
 refine C2.mono ?_
 rintro e w2 ⟨x5, y5, rfl, oN, kN⟩
 clear C2
 have s2 := kN.size
 have X2 := X1.below kN (by omega)
 have R2 := R1.below kN (by omega)
 have kb := below_alloc w2 (.cells #[.slice x5 1 y5, .slice none 0 0] 25)
 have Y2 := boxA_new w2 #[.slice x5 1 y5, .slice none 0 0] 25
 have X3 := X2.below kb (by omega)
 have R3 := R2.below kb (by omega)
 have kw : Below w.heap.size w (w2.alloc (.cells #[.slice x5 1 y5, .slice none 0 0] 25)) := (g1.trans (kN.mono g1.size)).trans (kb.mono (by omega))
 have s3 : (w2.alloc (.cells #[.slice x5 1 y5, .slice none 0 0] 25)).heap.size = w2.heap.size + 1 := by simp
 have HN : Hid (RdN (Fr w1.heap.size w2.heap.size) (w2.alloc (.cells #[.slice x5 1 y5, .slice none 0 0] 25)) (.slice x5 1 y5) [(n : Int)]) := oN.imp (fun _ h => h) (Agree.of kb (fun q hq => hq.2))
 clear oN X1 X2 R1 R2
 have x1 := X3.cell 1 rfl
 go_wp2_with fail
 clear x1
 generalize hA' : w2.alloc (.cells #[.slice x5 1 y5, .slice none 0 0] 25) = u at *
 clear hA'
 have s3a : w2.heap.size < u.heap.size := by omega
 have s3b : u.heap.size ≤ w2.heap.size + 1 := by omega
 clear s3
 obtain ⟨i0, hi, hz0, hz1, hz2⟩ := info_parts info_item3
 go_loopw [22] (fun iv wr => ∃ (i : Nat) (b3 : Option Addr) (d3 : Nat), iv = .int .i64 i ∧ i ≤ n ∧ BoxA wr w2.heap.size 25 #[.slice x5 1 y5, .slice b3 i d3] ∧ RowOf 63 6 (ElI 0 L) u.heap.size wr (.slice b3 i d3) i ∧ Below w.heap.size w wr ∧ u.heap.size ≤ wr.heap.size ∧ Hid (∀ g, g < u.heap.size → g ≠ w2.heap.size → wr.heap[g]? = u.heap[g]?)) (fun iv _ => n - (intOf iv).toNat)
 case atStart => exact ⟨0, none, 0, rfl, Nat.zero_le _, Y2, RowOf.nil, kw, Nat.le_refl _, fun _ _ _ => rfl⟩
 case round =>
  obtain ⟨i, b3, d3, rfl, hil, Yr, hrow, kr, hsr, HK⟩ := hrel
  have lyr := Yr.lt
  by_cases hlt : i < n
  · have Xr : BoxA wr w.heap.size 25 #[.slice (some ⟨gS, oS, none⟩) 1 y1, .slice (some ⟨gA, oA, none⟩) n cA] := by
     have := X3
     unfold BoxA at this ⊢
     rw [HK.out _ (by omega) (by omega)]; exact this
    obtain ⟨a1, c1, a2, c2, a3, c3, ⟨e0, e1, e2, e3, e4, e5⟩, hv⟩ := HcA.out i hlt
    have hag : Agree D w wr := Agree.of kr HD.out
    have e0 := (hag.cell hgA).trans e0
    have e1 := (hag.cell hgA).trans e1
    have e2 := (hag.cell hgA).trans e2
    have e3 := (hag.cell hgA).trans e3
    have e4 := (hag.cell hgA).trans e4
    have e5 := (hag.cell hgA).trans e5
    have hDr : ∀ q, D q → q < wr.heap.size := fun q hq => by have := HD.out q hq; omega
    have r1 := (hv.rn.imp (fun _ h => h) hag).rd hDr
    have r2 := (hv.rd.imp (fun _ h => h) hag).rd hDr
    rw [HwA.out i hlt] at e0 e1 e2 e3 e4 e5 r1 r2
    obtain ⟨hb, hhb⟩ : ∃ b, qa.getD i false = b := ⟨_, rfl⟩
    rw [hhb] at e0 e1 e2 e3 e4 e5 r1 r2
    replace e0 : wr.cell? ⟨gA, oA + i * 6, none⟩ = some (.int .u8 1) := e0
    replace e1 : wr.cell? ⟨gA, oA + i * 6 + 1, none⟩ = some (.bool false) := e1
    replace e2 : wr.cell? ⟨gA, oA + i * 6 + 2, none⟩ = some (.slice a1 (bitL hb).length c1) := e2
    replace e3 : wr.cell? ⟨gA, oA + i * 6 + 3, none⟩ = some (.slice a2 1 c2) := e3
    replace e4 : wr.cell? ⟨gA, oA + i * 6 + 4, none⟩ = some (.int .i32 0) := e4
    replace e5 : wr.cell? ⟨gA, oA + i * 6 + 5, none⟩ = some (.slice a3 0 c3) := e5
    have CI := throughItem_not (h := hb) (a1 := a1) (c1 := c1) (a2 := a2) (c2 := c2) (a3 := a3) (n3 := 0) (c3 := c3) (c := 0) r1 r2
    clear r1 r2 hv
    have x1 := Xr.cell 1 rfl
    go_wp2_with fail
    clear x1 e0 e1 e2 e3 e4 e5
    generalize hSw : wr = W1 at *
    refine CI.mono ?_
    rintro e w4 ⟨⟨b, z1, ns, u1, z2, ds, u2, rfl, ho1, ho2, hT⟩, k4⟩
    clear CI
    have s4 := k4.size
    have kI := below_alloc w4 (.cells #[.int .u8 1, .bool b, .slice z1 ns.length u1, .slice z2 ds.length u2, .int .i32 0, .slice none 0 0] 63)
    have BI := boxA_new w4 #[.int .u8 1, .bool b, .slice z1 ns.length u1, .slice z2 ds.length u2, .int .i32 0, .slice none 0 0] 63
    have sI : (w4.alloc (.cells #[.int .u8 1, .bool b, .slice z1 ns.length u1, .slice z2 ds.length u2, .int .i32 0, .slice none 0 0] 63)).heap.size = w4.heap.size + 1 := by simp
    have kWI : Below W1.heap.size W1 (w4.alloc (.cells #[.int .u8 1, .bool b, .slice z1 ns.length u1, .slice z2 ds.length u2, .int .i32 0, .slice none 0 0] 63)) := k4.trans (kI.mono s4)
    have YI := Yr.below kWI (by omega)
    have i1 := BI.cell 0 rfl
    have i2 := BI.cell 1 rfl
    have i3 := BI.cell 2 rfl
    have i4 := BI.cell 3 rfl
    have i5 := BI.cell 4 rfl
    have i6 := BI.cell 5 rfl
    obtain ⟨xs, hor, he⟩ := hrow
    have HO : Hid (W1.ownsRow u.heap.size 63 6 (.slice b3 i d3) i xs) := hor
    have HE : Hid (∀ j, j < i → ElI 0 L (FrR u.heap.size W1 (.slice b3 i d3)) W1 (cellsOf xs 6 j) j) := he
    clear hor he
    have lY5 := YI.lt
    have ho1' := ho1.below kI (Nat.le_refl _)
    have ho2' := ho2.below kI (Nat.le_refl _)
    clear ho1 ho2
    have HV : Hid (ItV (ArV 0 (fun g => W1.heap.size ≤ g ∧ g < (w4.alloc (.cells #[.int .u8 1, .bool b, .slice z1 ns.length u1, .slice z2 ds.length u2, .int .i32 0, .slice none 0 0] 63)).heap.size) (w4.alloc (.cells #[.int .u8 1, .bool b, .slice z1 ns.length u1, .slice z2 ds.length u2, .int .i32 0, .slice none 0 0] 63))) (fun g => W1.heap.size ≤ g ∧ g < (w4.alloc (.cells #[.int .u8 1, .bool b, .slice z1 ns.length u1, .slice z2 ds.length u2, .int .i32 0, .slice none 0 0] 63)).heap.size) (w4.alloc (.cells #[.int .u8 1, .bool b, .slice z1 ns.length u1, .slice z2 ds.length u2, .int .i32 0, .slice none 0 0] 63)) z1 u1 z2 u2 none 0 (numT b ns ds)) := ⟨RdL.of_own ho1', RdL.of_own ho2', ⟨none, 0, rfl, Nat.le_refl _, by omega, fun _ => rfl, Or.inl rfl⟩⟩
    have HT : Hid (numT b ns ds = L.getD i tr0) := by
     have h1 := hT.out
     have h2 := HLi.out i hlt
     rw [hhb] at h2
     exact h1.trans h2.symm
    clear ho1' ho2' hT
    have y1' := YI.cell 1 rfl
    have hyO : ∀ O, ((w4.alloc (.cells #[.int .u8 1, .bool b, .slice z1 ns.length u1, .slice z2 ds.length u2, .int .i32 0, .slice none 0 0] 63)).alloc O).cell? ⟨w2.heap.size, 1, none⟩ = some (.slice b3 i d3) := fun O => (YI.below (below_alloc (w4.alloc (.cells #[.int .u8 1, .bool b, .slice z1 ns.length u1, .slice z2 ds.length u2, .int .i32 0, .slice none 0 0] 63)) O) lY5).cell 1 rfl
    have s6 := kWI.size
    go_wp2_with (at_builtin; refine wpList_append_own_at _ rfl _ _ 23 rfl u.heap.size 63 i0 (.agg #[.int .u8 0, .bool false, .slice none 0 0, .slice none 0 0, .int .i32 0, .slice none 0 0]) 6 96 Tryz.underlying23 hi hz0 hz1 hz2 rfl (by decide) _ i xs rfl ((row_below HO.out kWI (Nat.le_refl _)).alloc _) ⟨w4.heap.size + 1, 0, none⟩ 1 1 [.int .u8 1, .bool b, .slice z1 ns.length u1, .slice z2 ds.length u2, .int .i32 0, .slice none 0 0] rfl rfl (fun jj xx hxx => by have hc := cells_new (w4.alloc (.cells #[.int .u8 1, .bool b, .slice z1 ns.length u1, .slice z2 ds.length u2, .int .i32 0, .slice none 0 0] 63)) #[.int .u8 1, .bool b, .slice z1 ns.length u1, .slice z2 ds.length u2, .int .i32 0, .slice none 0 0] 63 jj xx hxx; rw [World.size_alloc] at hc; exact hc) (by intro x hx; simp at hx; rcases hx with rfl | rfl | rfl | rfl | rfl | rfl <;> rfl) (by unfold maxLen; omega) (by omega) (by simp; omega) ?_)
    intro v' w7 hr hgr _ hvo
    obtain ⟨b4, d4, rfl⟩ := row_form3 hr
    have nY : (Value.slice b3 i d3).ownBlock ≠ some w2.heap.size := fun h => by have := (row_own HO.out _ h).1; omega
    have Y7 := boxA_grown (YI.below (below_alloc (w4.alloc (.cells #[.int .u8 1, .bool b, .slice z1 ns.length u1, .slice z2 ds.length u2, .int .i32 0, .slice none 0 0] 63)) (.cells #[.int .u8 1, .bool b, .slice z1 ns.length u1, .slice z2 ds.length u2, .int .i32 0, .slice none 0 0] 63)) lY5) hgr nY
    have y7 := Y7.cell 1 rfl
    have f7 := Y7.frozen 1
    obtain ⟨t1, t2, t3, t4⟩ := row_round (o := 1) (u := .slice b4 (i + 1) d4) (news := [.int .u8 1, .bool b, .slice z1 ns.length u1, .slice z2 ds.length u2, .int .i32 0, .slice none 0 0]) (wc := W1) (V := W1) (B := w2.heap.size) (elI_ok 0 L) HO.out HE.out (fun _ _ _ => rfl) (Below.refl _ _) (by omega) (Nat.le_refl _) (by omega) kWI rfl (by unfold ElI; rw [← HT.out]; exact ⟨z1, u1, z2, u2, none, 0, ⟨rfl, rfl, rfl, rfl, rfl, rfl⟩, HV.out⟩) hr hgr (by first | (rw [World.size_alloc]; exact hvo) | (rw [World.size_alloc, World.size_alloc]; exact hvo) | simpa using hvo)
    have T1 : Hid (RowOf 63 6 (ElI 0 L) u.heap.size (w7.setCell ⟨w2.heap.size, 1, none⟩ (.slice b4 (i + 1) d4)) (.slice b4 (i + 1) d4) (i + 1)) := t1
    have HK7 : Hid (∀ g, g < u.heap.size → g ≠ w2.heap.size → (w7.setCell ⟨w2.heap.size, 1, none⟩ (.slice b4 (i + 1) d4)).heap[g]? = u.heap[g]?) := fun g h1 h3 => by
     rw [t4 g h1 h3]
     exact HK.out g h1 h3
    have kr7 : Below w.heap.size w (w7.setCell ⟨w2.heap.size, 1, none⟩ (.slice b4 (i + 1) d4)) := ⟨t2.os.trans kr.os, t2.tape.trans kr.tape, t2.output.trans kr.output, Nat.le_trans kr.size t2.size, fun g h1 => by rw [t4 g (by omega) (by omega)]; exact kr.block g h1⟩
    have Y8 := boxA_s1 Y7 (.slice b4 (i + 1) d4)
    clear t1 t4 hr hgr hvo
    go_wp2
    go_roundw
    case rel => exact ⟨i + 1, b4, d4, by go_num, by omega, Y8, T1.out, kr7, t3, HK7⟩
    case measure => simp [intOf]; omega
  · obtain rfl : i = n := by omega
    have Rr : BoxA wr (w.heap.size + 1) 25 #[.slice none 0 0, .slice none 0 0] := by
     have := R3
     unfold BoxA at this ⊢
     rw [HK.out _ (by omega) (by omega)]; exact this
    have r0 := Rr.cell 0 rfl
    have r1 := Rr.cell 1 rfl
    have f0 := Rr.frozen 0
    have f1 := Rr.frozen 1
    have y0 := Yr.cell 0 rfl
    have y1' := Yr.cell 1 rfl
    go_wp2
    have Q := boxA_s1 (boxA_s0 Rr (.slice x5 1 y5)) (.slice b3 i d3)
    have j0 := Q.cell 0 rfl
    have j1 := Q.cell 1 rfl
    refine bodyPost_ret (v := .tuple #[.agg #[.slice x5 1 y5, .slice b3 i d3], .int .i64 0]) (by simp [results, Tryz.results27, go_sem, j0, j1]) rfl ?_
    have hB : Below w.heap.size w ((wr.setCell ⟨w.heap.size + 1, 0, none⟩ (.slice x5 1 y5)).setCell ⟨w.heap.size + 1, 1, none⟩ (.slice b3 i d3)) := Below.set2 kr (by omega) _ _
    refine ⟨x5, y5, b3, d3, rfl, ⟨HN.out.imp ?_ ?_, ?_⟩, hB⟩
    · rintro g ⟨q1, q2⟩; exact ⟨by omega, by rw [set1_size, set1_size]; omega⟩
    · rintro g ⟨q1, q2⟩; rw [set1_other (by show ¬ w.heap.size + 1 = g; omega), set1_other (by show ¬ w.heap.size + 1 = g; omega)]; exact HK.out g (by omega) (by omega)
    · have hb := rowB_I (D := Fr w.heap.size ((wr.setCell ⟨w.heap.size + 1, 0, none⟩ (.slice x5 1 y5)).setCell ⟨w.heap.size + 1, 1, none⟩ (.slice b3 i d3)).heap.size) ((hrow.setCell (elI_ok _ _) (a := ⟨w.heap.size + 1, 0, none⟩) (by show w.heap.size + 1 < _; omega) (.slice x5 1 y5)).setCell (elI_ok _ _) (a := ⟨w.heap.size + 1, 1, none⟩) (by show w.heap.size + 1 < _; omega) (.slice b3 i d3)) (fun g q1 q2 => ⟨by omega, q2⟩)
      have e : (arrT [(i : Int)] L).kids.length = i := HL.out
      rw [e]; exact hb
end
end Go.Proofs.YtmijanocljmaeaaGreat

/- Scalar functions of arrays without items. -/
namespace Go.Proofs.YtmijanocljmaeaaGreat
set_option linter.unusedVariables false
set_option linter.unusedSimpArgs false
open Go.RowKit

section
variable {D : Nat → Prop} {w : World} {x1 : Option Addr} {y1 : Nat} {sh : List Int}
set_option maxRecDepth 100000 in
set_option maxHeartbeats 16000000 in
theorem empty_any (hsh : RdN D w (.slice x1 sh.length y1) sh) (hl : sh.length * 8 ≤ 140737488355328) (hD : ∀ g, D g → g < w.heap.size) :
    Calls Tryz.prog 62 #[.slice x1 sh.length y1] w fun e w' => ∃ x5 y5 b3 d3, e = .returned (.agg #[.slice x5 sh.length y5, .slice b3 1 d3]) ∧ ArV 1 (Fr w.heap.size w'.heap.size) w' (.slice x5 sh.length y5) (.slice b3 1 d3) (arrT sh [wholeT 0]) ∧ Below w.heap.size w w' := by
 have R := boxA_new w #[.slice none 0 0, .slice none 0 0] 25
 have g := below_alloc w (.cells #[.slice none 0 0, .slice none 0 0] 25)
 have lR := R.lt
 have sz : (w.alloc (.cells #[.slice none 0 0, .slice none 0 0] 25)).heap.size = w.heap.size + 1 := by simp
 have C1 := copyOf5_any (hsh.imp (fun _ h => h) (Agree.of g hD)) hl
 clear hsh hD
 go_enter Tryz.func62, Tryz.ntmps62
 go_wp2_with fail
 generalize hA : w.alloc (.cells #[.slice none 0 0, .slice none 0 0] 25) = v at *
 clear hA
 refine C1.mono ?_
 rintro e w1 ⟨x5, y5, rfl, oN, k1⟩
 clear C1
 have s1 := k1.size
 go_wp2_with fail
 refine (ofInt_any 0 (by omega) (by omega) w1).mono ?_
 rintro e w2 ⟨k2, b, ns, ds, z1, u1, z2, u2, hw, rfl, ho1, ho2⟩
 have s2 := k2.size
 have hb : (Instr.build 63 #[(0, .int .u8 1), (1, .agg #[.bool b, .slice z1 ns.length u1, .slice z2 ds.length u2])]).run Tryz.prog w2 = .ok (.agg #[.int .u8 1, .bool b, .slice z1 ns.length u1, .slice z2 ds.length u2, .int .i32 0, .slice none 0 0]) w2 := by kernel_rfl
 have kI := below_alloc w2 (.cells #[.int .u8 1, .bool b, .slice z1 ns.length u1, .slice z2 ds.length u2, .int .i32 0, .slice none 0 0] 63)
 have BI := boxA_new w2 #[.int .u8 1, .bool b, .slice z1 ns.length u1, .slice z2 ds.length u2, .int .i32 0, .slice none 0 0] 63
 have sI : (w2.alloc (.cells #[.int .u8 1, .bool b, .slice z1 ns.length u1, .slice z2 ds.length u2, .int .i32 0, .slice none 0 0] 63)).heap.size = w2.heap.size + 1 := by simp
 have RI := ((R.below k1 (by omega)).below k2 (by omega)).below kI (by omega)
 have gI : Below w.heap.size w (w2.alloc (.cells #[.int .u8 1, .bool b, .slice z1 ns.length u1, .slice z2 ds.length u2, .int .i32 0, .slice none 0 0] 63)) := ((g.trans (k1.mono g.size)).trans (k2.mono (by omega))).trans (kI.mono (by omega))
 have oN3 := (oN.imp (D' := Fr v.heap.size w1.heap.size) (fun _ h => h) (Agree.of k2 (fun q hq => hq.2))).imp (D' := Fr v.heap.size w1.heap.size) (fun _ h => h) (Agree.of kI (fun q hq => by have := hq.2; omega))
 have HN : Hid (RdN (Fr v.heap.size w1.heap.size) (w2.alloc (.cells #[.int .u8 1, .bool b, .slice z1 ns.length u1, .slice z2 ds.length u2, .int .i32 0, .slice none 0 0] 63)) (.slice x5 sh.length y5) sh) := oN3
 have HO1 : Hid (RdL (fun g => w1.heap.size ≤ g ∧ g < w2.heap.size) w2 (.slice z1 ns.length u1) ns) := RdL.of_own ho1
 have HO2 : Hid (RdL (fun g => w1.heap.size ≤ g ∧ g < w2.heap.size) w2 (.slice z2 ds.length u2) ds) := RdL.of_own ho2
 have HT : Hid (numT b ns ds = wholeT 0) := wholeIs_eq (by decide) (by decide) hw.out
 clear oN oN3 ho1 ho2 hw
 have r0 := RI.cell 0 rfl
 have r1 := RI.cell 1 rfl
 have f0 := RI.frozen 0
 have f1 := RI.frozen 1
 go_wp2
 have Q := boxA_s1 (boxA_s0 RI (.slice x5 sh.length y5)) (.slice (some ⟨w2.heap.size, 0, none⟩) 1 1)
 have j0 := Q.cell 0 rfl
 have j1 := Q.cell 1 rfl
 refine bodyPost_ret (v := .agg #[.slice x5 sh.length y5, .slice (some ⟨w2.heap.size, 0, none⟩) 1 1]) (by simp [results, Tryz.results62, go_sem, j0, j1]) rfl ?_
 have kS : ∀ q, q ≠ w.heap.size → (((w2.alloc (.cells #[.int .u8 1, .bool b, .slice z1 ns.length u1, .slice z2 ds.length u2, .int .i32 0, .slice none 0 0] 63)).setCell ⟨w.heap.size, 0, none⟩ (.slice x5 sh.length y5)).setCell ⟨w.heap.size, 1, none⟩ (.slice (some ⟨w2.heap.size, 0, none⟩) 1 1)).heap[q]? = (w2.alloc (.cells #[.int .u8 1, .bool b, .slice z1 ns.length u1, .slice z2 ds.length u2, .int .i32 0, .slice none 0 0] 63)).heap[q]? := fun q hq => by rw [set1_other (by show ¬ w.heap.size = q; omega), set1_other (by show ¬ w.heap.size = q; omega)]
 have sS : (((w2.alloc (.cells #[.int .u8 1, .bool b, .slice z1 ns.length u1, .slice z2 ds.length u2, .int .i32 0, .slice none 0 0] 63)).setCell ⟨w.heap.size, 0, none⟩ (.slice x5 sh.length y5)).setCell ⟨w.heap.size, 1, none⟩ (.slice (some ⟨w2.heap.size, 0, none⟩) 1 1)).heap.size = w2.heap.size + 1 := by rw [set1_size, set1_size]; exact sI
 refine ⟨x5, y5, some ⟨w2.heap.size, 0, none⟩, 1, rfl, ⟨HN.out.imp (fun q hq => ⟨by have := hq.1; omega, by have := hq.2; omega⟩) (fun q hq => kS q (by have := hq.1; omega)), _, 1, rfl, Nat.le_refl _, by omega, (fun h => by cases h), Or.inr ⟨w2.heap.size, 0, rfl, ⟨by omega, by omega⟩, fun j hj => ?_⟩⟩, Below.set2 gI (Nat.le_refl _) _ _⟩
 have hj : j < 1 := hj
 obtain rfl : j = 0 := by omega
 have hBI : BoxA (((w2.alloc (.cells #[.int .u8 1, .bool b, .slice z1 ns.length u1, .slice z2 ds.length u2, .int .i32 0, .slice none 0 0] 63)).setCell ⟨w.heap.size, 0, none⟩ (.slice x5 sh.length y5)).setCell ⟨w.heap.size, 1, none⟩ (.slice (some ⟨w2.heap.size, 0, none⟩) 1 1)) w2.heap.size 63 #[.int .u8 1, .bool b, .slice z1 ns.length u1, .slice z2 ds.length u2, .int .i32 0, .slice none 0 0] := by
  have := BI
  unfold BoxA at this ⊢
  rw [kS _ (by omega)]; exact this
 show ItC _ _ _ w2.heap.size 0 (wholeT 0)
 rw [← HT.out]
 have ag : Agree (fun g => w1.heap.size ≤ g ∧ g < w2.heap.size) w2 (((w2.alloc (.cells #[.int .u8 1, .bool b, .slice z1 ns.length u1, .slice z2 ds.length u2, .int .i32 0, .slice none 0 0] 63)).setCell ⟨w.heap.size, 0, none⟩ (.slice x5 sh.length y5)).setCell ⟨w.heap.size, 1, none⟩ (.slice (some ⟨w2.heap.size, 0, none⟩) 1 1)) := fun q hq => by
  rw [kS q (by have := hq.1; omega)]
  exact kI.block q hq.2
 exact ⟨z1, u1, z2, u2, none, 0, ⟨hBI.cell 0 rfl, hBI.cell 1 rfl, hBI.cell 2 rfl, hBI.cell 3 rfl, hBI.cell 4 rfl, hBI.cell 5 rfl⟩, HO1.out.imp (fun q hq => ⟨by have := hq.1; omega, by have := hq.2; omega⟩) ag, HO2.out.imp (fun q hq => ⟨by have := hq.1; omega, by have := hq.2; omega⟩) ag, none, 0, rfl, Nat.le_refl _, by omega, fun _ => rfl, Or.inl rfl⟩
end
section
variable {D : Nat → Prop} {w : World} {gS oS y1 n2 y2 : Nat} {x2 : Option Addr}
set_option maxRecDepth 100000 in
set_option maxHeartbeats 16000000 in
theorem through_not0 (hD : ∀ g, D g → g < w.heap.size) (hsh : RdN D w (.slice (some ⟨gS, oS, none⟩) 1 y1) [(0 : Int)]) :
    Calls Tryz.prog 27 #[.func (.func 57) #[] #[], .agg #[.slice (some ⟨gS, oS, none⟩) 1 y1, .slice x2 n2 y2]] w fun e w' => ∃ x5 y5 b3 d3, e = .returned (.tuple #[.agg #[.slice x5 1 y5, .slice b3 1 d3], .int .i64 0]) ∧ ArV 1 (Fr w.heap.size w'.heap.size) w' (.slice x5 1 y5) (.slice b3 1 d3) (arrT [(0 : Int)] [wholeT 0]) ∧ Below w.heap.size w w' := by
 have k1 := below_alloc w (.cells #[.slice (some ⟨gS, oS, none⟩) 1 y1, .slice x2 n2 y2] 25)
 have k2 := below_alloc (w.alloc (.cells #[.slice (some ⟨gS, oS, none⟩) 1 y1, .slice x2 n2 y2] 25)) (.cells #[.slice none 0 0, .slice none 0 0] 25)
 have g : Below w.heap.size w ((w.alloc (.cells #[.slice (some ⟨gS, oS, none⟩) 1 y1, .slice x2 n2 y2] 25)).alloc (.cells #[.slice none 0 0, .slice none 0 0] 25)) := k1.trans (k2.mono (by simp))
 have X0 := (boxA_new w #[.slice (some ⟨gS, oS, none⟩) 1 y1, .slice x2 n2 y2] 25).below k2 (by simp)
 have R0 := boxA_new (w.alloc (.cells #[.slice (some ⟨gS, oS, none⟩) 1 y1, .slice x2 n2 y2] 25)) #[.slice none 0 0, .slice none 0 0] 25
 rw [World.size_alloc] at R0
 have sv : ((w.alloc (.cells #[.slice (some ⟨gS, oS, none⟩) 1 y1, .slice x2 n2 y2] 25)).alloc (.cells #[.slice none 0 0, .slice none 0 0] 25)).heap.size = w.heap.size + 1 + 1 := by simp
 have HD : Hid (∀ g, D g → g < w.heap.size) := hD
 have hsh1 := hsh.imp (fun _ h => h) (Agree.of g hD)
 have hcS : w.cell? ⟨gS, oS, none⟩ = some (.int .i64 0) := by
  obtain ⟨_, a, cap, e, _, _, _, hc⟩ := hsh
  cases e
  rcases hc with h0 | ⟨b, off, e, hb, hj⟩
  · simp at h0
  · cases e; simpa using hj 0 (by simp)
 have lS := lt_of_cellT hcS
 clear hD hsh k1 k2
 have C1 := isEmpty_vec (q := 0) (y1 := y1) (x2 := x2) (n2 := n2) (y2 := y2) ((g.cell (p := ⟨gS, oS, none⟩) lS).trans hcS)
 rw [decide_eq_true rfl] at C1
 clear hcS
 have x0 := X0.cell 0 rfl
 have x1 := X0.cell 1 rfl
 go_enter Tryz.func27, Tryz.ntmps27
 go_wp2_with fail
 generalize hA : (w.alloc (.cells #[.slice (some ⟨gS, oS, none⟩) 1 y1, .slice x2 n2 y2] 25)).alloc (.cells #[.slice none 0 0, .slice none 0 0] 25) = v at *
 clear hA x0 x1
 refine C1.mono ?_
 rintro e w1 ⟨rfl, q1⟩
 clear C1
 have s1 := q1.size
 have X1 := X0.below q1 (by omega)
 have R1 := R0.below q1 (by omega)
 have C2 := empty_any (sh := [(0 : Int)]) (hsh1.imp (fun _ h => h) (Agree.of q1 (fun q hq => by have := HD.out q hq; omega))) (by simp) (fun q hq => by have := HD.out q hq; omega)
 clear hsh1
 have x0 := X1.cell 0 rfl
 go_wp2_with fail
 clear x0
 refine C2.mono ?_
 rintro e w2 ⟨x5, y5, b3, d3, rfl, hv, k2⟩
 clear C2
 have s2 := k2.size
 have HV : Hid (ArV 1 (Fr w1.heap.size w2.heap.size) w2 (.slice x5 1 y5) (.slice b3 1 d3) (arrT [(0 : Int)] [wholeT 0])) := hv
 clear hv
 have R2 := R1.below k2 (by omega)
 have r0 := R2.cell 0 rfl
 have r1 := R2.cell 1 rfl
 have f0 := R2.frozen 0
 have f1 := R2.frozen 1
 have Q := boxA_s1 (boxA_s0 R2 (.slice x5 1 y5)) (.slice b3 1 d3)
 have j0 := Q.cell 0 rfl
 have j1 := Q.cell 1 rfl
 go_wp2
 refine bodyPost_ret (v := .tuple #[.agg #[.slice x5 1 y5, .slice b3 1 d3], .int .i64 0]) (by simp [results, Tryz.results27, go_sem, j0, j1]) rfl ?_
 exact ⟨x5, y5, b3, d3, rfl, ArV.imp (fun q hq => ⟨by have := hq.1; omega, by rw [set1_size, set1_size]; exact hq.2⟩) (fun q hq => by rw [set1_other (by show ¬ w.heap.size + 1 = q; have := hq.1; omega), set1_other (by show ¬ w.heap.size + 1 = q; have := hq.1; omega)]) 1 1 _ _ _ (Nat.le_refl _) HV.out, Below.set2 ((g.trans (q1.mono g.size)).trans (k2.mono (by omega))) (by omega) _ _⟩
end
section
variable {D : Nat → Prop} {w : World} {p ba bb : Nat} {F : Value} {x1 : Option Addr} {y1 : Nat} {sh : List Int} {gl kp : Int}
set_option maxRecDepth 100000 in
set_option maxHeartbeats 16000000 in
theorem through_empty {pv : Value} (P0 : BoxA w p 90 #[.int .i32 gl, F, .int .i64 0, .int .i64 kp]) (hsh : RdN D w (.slice x1 sh.length y1) sh) (hD : ∀ g, D g → g < w.heap.size) (hDp : ∀ g, D g → g ≠ p) (hsz : sizeF sh = ((0 : Int), 0)) :
    Calls Tryz.prog 42 #[.pointer (some ⟨p, 0, none⟩), .slice x1 sh.length y1, pv] w fun e w' => (∃ x5 y5 b3 d3, e = .returned (.tuple #[.agg #[.slice x5 sh.length y5, .slice b3 1 d3], .int .i64 0]) ∧ ArV 1 (Fr w.heap.size w'.heap.size) w' (.slice x5 sh.length y5) (.slice b3 1 d3) (arrT sh [wholeT 0])) ∧ Kp p w w' := by
 have k0 := below_alloc w (.cells #[.slice none 0 0, .slice none 0 0] 25)
 have R0 := boxA_new w #[.slice none 0 0, .slice none 0 0] 25
 have lp := P0.lt
 have P1 := P0.below k0 lp
 have s0 : (w.alloc (.cells #[.slice none 0 0, .slice none 0 0] 25)).heap.size = w.heap.size + 1 := by simp
 have hshl : sh.length ≤ 8 := size_rank (by rw [hsz])
 have hsh1 := hsh.imp (fun _ h => h) (Agree.of k0 hD)
 have HD : Hid (∀ g, D g → g < w.heap.size) := hD
 have HSH : Hid (RdN D w (.slice x1 sh.length y1) sh) := hsh
 have C1 := arrSize_any hsh1 (fun g hg => by have := hD g hg; omega)
 rw [hsz] at C1
 have z2 := P1.cell 2 rfl
 have f2 := P1.frozen 2
 clear hsh hD hsz
 go_enter Tryz.func42, Tryz.ntmps42
 go_wp2_with fail
 refine C1.mono ?_
 rintro e w1 ⟨rfl, hw⟩
 obtain rfl := hw.symm
 clear C1
 have k0' := below_alloc (w.setCell ⟨p, 2, none⟩ (.int .i64 1)) (.cells #[.slice none 0 0, .slice none 0 0] 25)
 have Rs : BoxA ((w.setCell ⟨p, 2, none⟩ (.int .i64 1)).alloc (.cells #[.slice none 0 0, .slice none 0 0] 25)) w.heap.size 25 #[.slice none 0 0, .slice none 0 0] := by
  have := boxA_new (w.setCell ⟨p, 2, none⟩ (.int .i64 1)) #[.slice none 0 0, .slice none 0 0] 25
  rw [set1_size] at this
  exact this
 have kS : Kp p w ((w.setCell ⟨p, 2, none⟩ (.int .i64 1)).alloc (.cells #[.slice none 0 0, .slice none 0 0] 25)) := (Kp.set _ _ _).trans (Kp.of_below k0')
 have sS : ((w.setCell ⟨p, 2, none⟩ (.int .i64 1)).alloc (.cells #[.slice none 0 0, .slice none 0 0] 25)).heap.size = w.heap.size + 1 := by rw [World.size_alloc, set1_size]
 have hshS : RdN D ((w.setCell ⟨p, 2, none⟩ (.int .i64 1)).alloc (.cells #[.slice none 0 0, .slice none 0 0] 25)) (.slice x1 sh.length y1) sh := HSH.out.imp (fun _ h => h) (fun q hq => by rw [kS.block q (HD.out q hq) (hDp q hq)])
 have C2 := empty_any hshS (by omega) (fun q hq => by have := HD.out q hq; omega)
 clear hsh1 hshS
 go_wp2_with fail
 generalize hSw : (w.setCell ⟨p, 2, none⟩ (.int .i64 1)).alloc (.cells #[.slice none 0 0, .slice none 0 0] 25) = W1 at *
 refine C2.mono ?_
 rintro e w2 ⟨x5, y5, b3, d3, rfl, hv, k2⟩
 clear C2
 have s2 := k2.size
 have HV : Hid (ArV 1 (Fr W1.heap.size w2.heap.size) w2 (.slice x5 sh.length y5) (.slice b3 1 d3) (arrT sh [wholeT 0])) := hv
 clear hv
 have R2 := Rs.below k2 (by omega)
 have r0 := R2.cell 0 rfl
 have r1 := R2.cell 1 rfl
 have g0 := R2.frozen 0
 have g1 := R2.frozen 1
 have Q := boxA_s1 (boxA_s0 R2 (.slice x5 sh.length y5)) (.slice b3 1 d3)
 have j0 := Q.cell 0 rfl
 have j1 := Q.cell 1 rfl
 go_wp2
 refine bodyPost_ret (v := .tuple #[.agg #[.slice x5 sh.length y5, .slice b3 1 d3], .int .i64 0]) (by simp [results, Tryz.results42, go_sem, j0, j1]) rfl ?_
 have kk : Kp p w w2 := kS.trans (Kp.of_below k2)
 refine ⟨⟨x5, y5, b3, d3, rfl, ArV.imp (fun q hq => ⟨by have := hq.1; omega, by rw [set1_size, set1_size]; exact hq.2⟩) (fun q hq => by rw [set1_other (by show ¬ w.heap.size = q; have := hq.1; omega), set1_other (by show ¬ w.heap.size = q; have := hq.1; omega)]) 1 1 _ _ _ (Nat.le_refl _) HV.out⟩, ⟨kk.os, kk.tape, kk.output, by rw [set1_size, set1_size]; exact kk.size, fun q h1 h2 => by rw [set1_other (by show ¬ w.heap.size = q; omega), set1_other (by show ¬ w.heap.size = q; omega)]; exact kk.block q h1 h2⟩⟩
end
end Go.Proofs.YtmijanocljmaeaaGreat

/- Dyadic at and, or, nand of arrays without items. -/
namespace Go.Proofs.YtmijanocljmaeaaGreat
set_option linter.unusedVariables false
set_option linter.unusedSimpArgs false
open Go.RowKit

section
variable {D : Nat → Prop} {f : Nat} {w : World} {ba bb gA oA cA gB oB cB n : Nat} {la lb L : List Tr} {qa qb : List Bool} {bh kf : Nat} {op : Bool → Bool → Bool} {gl : Int} {x1 : Option Addr} {y1 : Nat} {sh : List Int}
set_option maxRecDepth 100000 in
set_option maxHeartbeats 16000000 in
theorem whole_empty (hD : ∀ g, D g → g < w.heap.size) (hsh : RdN D w (.slice x1 sh.length y1) sh) (hsz : sizeF sh = ((0 : Int), 0)) :
    Calls Tryz.prog 20 #[.int .i32 gl, .func (.func 137) #[] #[.pointer (some ⟨bh, 0, none⟩)], .slice x1 sh.length y1, .func (.func 43) #[] #[.pointer (some ⟨ba, 0, none⟩), .pointer (some ⟨bb, 0, none⟩)]] w fun e w' => ∃ x5 y5 b3 d3, e = .returned (.tuple #[.agg #[.slice x5 sh.length y5, .slice b3 1 d3], .int .i64 0]) ∧ ArV 1 (Fr w.heap.size w'.heap.size) w' (.slice x5 sh.length y5) (.slice b3 1 d3) (arrT sh [wholeT 0]) ∧ Below w.heap.size w w' := by
 have k1 := below_alloc w (.cells #[.int .i32 gl] 21)
 have k2 := below_alloc (w.alloc (.cells #[.int .i32 gl] 21)) (.cells #[.slice none 0 0, .slice none 0 0] 25)
 have k3 := below_alloc ((w.alloc (.cells #[.int .i32 gl] 21)).alloc (.cells #[.slice none 0 0, .slice none 0 0] 25)) (.cells #[.int .i32 gl, .func (.func 40) #[] #[.pointer (some ⟨w.heap.size, 0, none⟩)], .int .i64 0, .int .i64 0] 90)
 have k23 : Below (w.alloc (.cells #[.int .i32 gl] 21)).heap.size (w.alloc (.cells #[.int .i32 gl] 21)) (((w.alloc (.cells #[.int .i32 gl] 21)).alloc (.cells #[.slice none 0 0, .slice none 0 0] 25)).alloc (.cells #[.int .i32 gl, .func (.func 40) #[] #[.pointer (some ⟨w.heap.size, 0, none⟩)], .int .i64 0, .int .i64 0] 90)) := k2.trans (k3.mono (by simp))
 have g : Below w.heap.size w (((w.alloc (.cells #[.int .i32 gl] 21)).alloc (.cells #[.slice none 0 0, .slice none 0 0] 25)).alloc (.cells #[.int .i32 gl, .func (.func 40) #[] #[.pointer (some ⟨w.heap.size, 0, none⟩)], .int .i64 0, .int .i64 0] 90)) := k1.trans (k23.mono (by simp))
 have Gl := (boxA_new w #[.int .i32 gl] 21).below k23 (by simp)
 have R := (boxA_new (w.alloc (.cells #[.int .i32 gl] 21)) #[.slice none 0 0, .slice none 0 0] 25).below k3 (by simp)
 have Pl := boxA_new ((w.alloc (.cells #[.int .i32 gl] 21)).alloc (.cells #[.slice none 0 0, .slice none 0 0] 25)) #[.int .i32 gl, .func (.func 40) #[] #[.pointer (some ⟨w.heap.size, 0, none⟩)], .int .i64 0, .int .i64 0] 90
 have sz2 : ((w.alloc (.cells #[.int .i32 gl] 21)).alloc (.cells #[.slice none 0 0, .slice none 0 0] 25)).heap.size = w.heap.size + 1 + 1 := by simp
 have sz3 : (((w.alloc (.cells #[.int .i32 gl] 21)).alloc (.cells #[.slice none 0 0, .slice none 0 0] 25)).alloc (.cells #[.int .i32 gl, .func (.func 40) #[] #[.pointer (some ⟨w.heap.size, 0, none⟩)], .int .i64 0, .int .i64 0] 90)).heap.size = w.heap.size + 1 + 1 + 1 := by simp
 rw [World.size_alloc] at R
 rw [sz2] at Pl
 have C1 := through_empty (pv := .func (.func 43) #[] #[.pointer (some ⟨ba, 0, none⟩), .pointer (some ⟨bb, 0, none⟩)]) Pl (hsh.imp (fun _ h => h) (Agree.of g hD)) (fun q hq => by have := hD q hq; omega) (fun q hq => by have := hD q hq; omega) hsz
 have HD : Hid (∀ g, D g → g < w.heap.size) := hD
 have Hsh : Hid (RdN D w (.slice x1 sh.length y1) sh) := hsh
 have Hsz : Hid (sizeF sh = ((0 : Int), 0)) := hsz
 clear hD hsh hsz k1 k2 k3 k23
 have g0 := Gl.cell 0 rfl
 have hb1 : (Instr.build 90 #[(0, .int .i32 gl), (1, .func (.func 40) #[] #[.pointer (some ⟨w.heap.size, 0, none⟩)])]).run Tryz.prog ((w.alloc (.cells #[.int .i32 gl] 21)).alloc (.cells #[.slice none 0 0, .slice none 0 0] 25)) = .ok (.agg #[.int .i32 gl, .func (.func 40) #[] #[.pointer (some ⟨w.heap.size, 0, none⟩)], .int .i64 0, .int .i64 0]) ((w.alloc (.cells #[.int .i32 gl] 21)).alloc (.cells #[.slice none 0 0, .slice none 0 0] 25)) := by kernel_rfl
 have hst := @run_storeF Tryz.prog
 go_enter Tryz.func20, Tryz.ntmps20
 go_wp2_with fail
 clear g0 hb1
 generalize hA3 : ((w.alloc (.cells #[.int .i32 gl] 21)).alloc (.cells #[.slice none 0 0, .slice none 0 0] 25)).alloc (.cells #[.int .i32 gl, .func (.func 40) #[] #[.pointer (some ⟨w.heap.size, 0, none⟩)], .int .i64 0, .int .i64 0] 90) = v at *
 clear hA3
 refine C1.mono ?_
 rintro e w4 ⟨⟨x6, y6, b6, d6, rfl, _⟩, k4⟩
 clear C1
 have s4 := k4.size
 have kb4 : Below w.heap.size w w4 := g.trans (k4.below (by omega) (by omega))
 have G4 : BoxA w4 w.heap.size 21 #[.int .i32 gl] := by
  have := Gl
  unfold BoxA at this ⊢
  rw [k4.block _ (by omega) (by omega)]; exact this
 have R4 : BoxA w4 (w.heap.size + 1) 25 #[.slice none 0 0, .slice none 0 0] := by
  have := R
  unfold BoxA at this ⊢
  rw [k4.block _ (by omega) (by omega)]; exact this
 have k5 := below_alloc w4 (.cells #[.slice x6 sh.length y6, .slice b6 1 d6] 25)
 have G5 := G4.below k5 G4.lt
 have g5 := G5.cell 0 rfl
 have lR4 := R4.lt
 have R5 := R4.below k5 R4.lt
 have sz5 : (w4.alloc (.cells #[.slice x6 sh.length y6, .slice b6 1 d6] 25)).heap.size = w4.heap.size + 1 := by simp
 have kb5 : Below w.heap.size w (w4.alloc (.cells #[.slice x6 sh.length y6, .slice b6 1 d6] 25)) := kb4.trans (k5.mono (by omega))
 have k6 := below_alloc (w4.alloc (.cells #[.slice x6 sh.length y6, .slice b6 1 d6] 25)) (.cells #[.int .i32 gl, .func (.func 137) #[] #[.pointer (some ⟨bh, 0, none⟩)], .int .i64 0, .int .i64 16384] 90)
 have Pw := boxA_new (w4.alloc (.cells #[.slice x6 sh.length y6, .slice b6 1 d6] 25)) #[.int .i32 gl, .func (.func 137) #[] #[.pointer (some ⟨bh, 0, none⟩)], .int .i64 0, .int .i64 16384] 90
 have kb6 : Below w.heap.size w ((w4.alloc (.cells #[.slice x6 sh.length y6, .slice b6 1 d6] 25)).alloc (.cells #[.int .i32 gl, .func (.func 137) #[] #[.pointer (some ⟨bh, 0, none⟩)], .int .i64 0, .int .i64 16384] 90)) := kb5.trans (k6.mono (by omega))
 have R6 := R5.below k6 (by omega)
 have sz6 : ((w4.alloc (.cells #[.slice x6 sh.length y6, .slice b6 1 d6] 25)).alloc (.cells #[.int .i32 gl, .func (.func 137) #[] #[.pointer (some ⟨bh, 0, none⟩)], .int .i64 0, .int .i64 16384] 90)).heap.size = w4.heap.size + 1 + 1 := by simp
 rw [sz5] at Pw
 have C2 := through_empty (pv := .func (.func 43) #[] #[.pointer (some ⟨ba, 0, none⟩), .pointer (some ⟨bb, 0, none⟩)]) Pw (Hsh.out.imp (fun _ h => h) (Agree.of kb6 HD.out)) (fun q hq => by have := HD.out q hq; omega) (fun q hq => by have := HD.out q hq; omega) Hsz.out
 have hb2 : (Instr.build 90 #[(0, .int .i32 gl), (1, .func (.func 137) #[] #[.pointer (some ⟨bh, 0, none⟩)]), (3, .int .i64 16384)]).run Tryz.prog (w4.alloc (.cells #[.slice x6 sh.length y6, .slice b6 1 d6] 25)) = .ok (.agg #[.int .i32 gl, .func (.func 137) #[] #[.pointer (some ⟨bh, 0, none⟩)], .int .i64 0, .int .i64 16384]) (w4.alloc (.cells #[.slice x6 sh.length y6, .slice b6 1 d6] 25)) := by kernel_rfl
 go_wp2_with fail
 clear g5 hb2
 generalize hA6 : (w4.alloc (.cells #[.slice x6 sh.length y6, .slice b6 1 d6] 25)).alloc (.cells #[.int .i32 gl, .func (.func 137) #[] #[.pointer (some ⟨bh, 0, none⟩)], .int .i64 0, .int .i64 16384] 90) = u at *
 clear hA6
 refine C2.mono ?_
 rintro e w7 ⟨⟨x5, y5, b3, d3, rfl, hv⟩, k7⟩
 clear C2
 have s7 := k7.size
 have kb7 : Below w.heap.size w w7 := kb6.trans (k7.below (by omega) (by omega))
 have R7 : BoxA w7 (w.heap.size + 1) 25 #[.slice none 0 0, .slice none 0 0] := by
  have := R6
  unfold BoxA at this ⊢
  rw [k7.block _ (by omega) (by omega)]; exact this
 have r0 := R7.cell 0 rfl
 have r1 := R7.cell 1 rfl
 have f0 := R7.frozen 0
 have f1 := R7.frozen 1
 have Q := boxA_s1 (boxA_s0 R7 (.slice x5 sh.length y5)) (.slice b3 1 d3)
 have j0 := Q.cell 0 rfl
 have j1 := Q.cell 1 rfl
 have HV : Hid (ArV 1 (Fr u.heap.size w7.heap.size) w7 (.slice x5 sh.length y5) (.slice b3 1 d3) (arrT sh [wholeT 0])) := hv
 clear hv
 go_wp2
 refine bodyPost_ret (v := .tuple #[.agg #[.slice x5 sh.length y5, .slice b3 1 d3], .int .i64 0]) (by simp [results, Tryz.results20, go_sem, j0, j1]) rfl ?_
 refine ⟨x5, y5, b3, d3, rfl, ArV.imp (fun q hq => ⟨by have := hq.1; omega, by rw [set1_size, set1_size]; exact hq.2⟩) (fun q hq => by rw [set1_other (by show ¬ w.heap.size + 1 = q; have := hq.1; omega), set1_other (by show ¬ w.heap.size + 1 = q; have := hq.1; omega)]) 1 1 _ _ _ (Nat.le_refl _) HV.out, Below.set2 kb7 (by omega) _ _⟩
end
section
variable {D : Nat → Prop} {f : Nat} {w : World} {io pp : Int} {bc : Bool} {e1 e2 : Option Addr} {cn cd : List Int} {f1 f2 : Nat} {x1 x2 x3 x4 : Option Addr} {n1 y1 n2 y2 n3 y3 n4 y4 : Nat} {t s : Tr} {gl : Int} {kf d : Nat} {op : Bool → Bool → Bool}
set_option maxRecDepth 100000 in
set_option maxHeartbeats 16000000 in
theorem dyadic_empty (hK : LogK gl kf op d) (hI : DyIn D f w bc e1 e2 cn cd f1 f2 x1 x2 x3 x4 n1 y1 n2 y2 n3 y3 n4 y4 t s) (hne : t.ns = s.ns) (hsz : sizeF t.ns = ((0 : Int), 0)) :
    Calls Tryz.prog 7 #[.agg #[.int .i64 io, .bool bc, .slice e1 cn.length f1, .slice e2 cd.length f2, .int .i64 pp], .int .i32 gl, .agg #[.slice x1 n1 y1, .slice x2 n2 y2], .agg #[.slice x3 n3 y3, .slice x4 n4 y4]] w fun e w' => ∃ x5 y5 b3 d3, e = .returned (.tuple #[.agg #[.slice x5 t.ns.length y5, .slice b3 1 d3], .int .i64 0]) ∧ ArV 1 (Fr w.heap.size w'.heap.size) w' (.slice x5 t.ns.length y5) (.slice b3 1 d3) (arrT t.ns [wholeT 0]) ∧ Below w.heap.size w w' := by
 obtain ⟨f, rfl⟩ : ∃ f', f = f' + 1 := by
  cases f with
  | zero => exact hI.va.elim
  | succ f => exact ⟨f, rfl⟩
 have en1 := hI.va.1.len
 have en2 := hI.va.2.len
 have en3 := hI.vb.1.len
 have en4 := hI.vb.2.len
 subst en1
 subst en2
 subst en3
 subst en4
 have k1 := below_alloc w (.cells #[.int .i64 io, .bool bc, .slice e1 cn.length f1, .slice e2 cd.length f2, .int .i64 pp] 35)
 have k2 := below_alloc (w.alloc (.cells #[.int .i64 io, .bool bc, .slice e1 cn.length f1, .slice e2 cd.length f2, .int .i64 pp] 35)) (.cells #[.slice x1 t.ns.length y1, .slice x2 t.kids.length y2] 25)
 have k3 := below_alloc ((w.alloc (.cells #[.int .i64 io, .bool bc, .slice e1 cn.length f1, .slice e2 cd.length f2, .int .i64 pp] 35)).alloc (.cells #[.slice x1 t.ns.length y1, .slice x2 t.kids.length y2] 25)) (.cells #[.slice x3 s.ns.length y3, .slice x4 s.kids.length y4] 25)
 have k4 := below_alloc (((w.alloc (.cells #[.int .i64 io, .bool bc, .slice e1 cn.length f1, .slice e2 cd.length f2, .int .i64 pp] 35)).alloc (.cells #[.slice x1 t.ns.length y1, .slice x2 t.kids.length y2] 25)).alloc (.cells #[.slice x3 s.ns.length y3, .slice x4 s.kids.length y4] 25)) (.cells #[.slice none 0 0, .slice none 0 0] 25)
 have k34 : Below ((w.alloc (.cells #[.int .i64 io, .bool bc, .slice e1 cn.length f1, .slice e2 cd.length f2, .int .i64 pp] 35)).alloc (.cells #[.slice x1 t.ns.length y1, .slice x2 t.kids.length y2] 25)).heap.size ((w.alloc (.cells #[.int .i64 io, .bool bc, .slice e1 cn.length f1, .slice e2 cd.length f2, .int .i64 pp] 35)).alloc (.cells #[.slice x1 t.ns.length y1, .slice x2 t.kids.length y2] 25)) ((((w.alloc (.cells #[.int .i64 io, .bool bc, .slice e1 cn.length f1, .slice e2 cd.length f2, .int .i64 pp] 35)).alloc (.cells #[.slice x1 t.ns.length y1, .slice x2 t.kids.length y2] 25)).alloc (.cells #[.slice x3 s.ns.length y3, .slice x4 s.kids.length y4] 25)).alloc (.cells #[.slice none 0 0, .slice none 0 0] 25)) := k3.trans (k4.mono (by simp))
 have k24 : Below (w.alloc (.cells #[.int .i64 io, .bool bc, .slice e1 cn.length f1, .slice e2 cd.length f2, .int .i64 pp] 35)).heap.size (w.alloc (.cells #[.int .i64 io, .bool bc, .slice e1 cn.length f1, .slice e2 cd.length f2, .int .i64 pp] 35)) ((((w.alloc (.cells #[.int .i64 io, .bool bc, .slice e1 cn.length f1, .slice e2 cd.length f2, .int .i64 pp] 35)).alloc (.cells #[.slice x1 t.ns.length y1, .slice x2 t.kids.length y2] 25)).alloc (.cells #[.slice x3 s.ns.length y3, .slice x4 s.kids.length y4] 25)).alloc (.cells #[.slice none 0 0, .slice none 0 0] 25)) := k2.trans (k34.mono (by simp))
 have g : Below w.heap.size w ((((w.alloc (.cells #[.int .i64 io, .bool bc, .slice e1 cn.length f1, .slice e2 cd.length f2, .int .i64 pp] 35)).alloc (.cells #[.slice x1 t.ns.length y1, .slice x2 t.kids.length y2] 25)).alloc (.cells #[.slice x3 s.ns.length y3, .slice x4 s.kids.length y4] 25)).alloc (.cells #[.slice none 0 0, .slice none 0 0] 25)) := k1.trans (k24.mono (by simp))
 have E := (boxA_new w #[.int .i64 io, .bool bc, .slice e1 cn.length f1, .slice e2 cd.length f2, .int .i64 pp] 35).below k24 (by simp)
 have X := (boxA_new (w.alloc (.cells #[.int .i64 io, .bool bc, .slice e1 cn.length f1, .slice e2 cd.length f2, .int .i64 pp] 35)) #[.slice x1 t.ns.length y1, .slice x2 t.kids.length y2] 25).below k34 (by simp)
 have Y := (boxA_new ((w.alloc (.cells #[.int .i64 io, .bool bc, .slice e1 cn.length f1, .slice e2 cd.length f2, .int .i64 pp] 35)).alloc (.cells #[.slice x1 t.ns.length y1, .slice x2 t.kids.length y2] 25)) #[.slice x3 s.ns.length y3, .slice x4 s.kids.length y4] 25).below k4 (by simp)
 have R := boxA_new (((w.alloc (.cells #[.int .i64 io, .bool bc, .slice e1 cn.length f1, .slice e2 cd.length f2, .int .i64 pp] 35)).alloc (.cells #[.slice x1 t.ns.length y1, .slice x2 t.kids.length y2] 25)).alloc (.cells #[.slice x3 s.ns.length y3, .slice x4 s.kids.length y4] 25)) #[.slice none 0 0, .slice none 0 0] 25
 have sz2 : ((w.alloc (.cells #[.int .i64 io, .bool bc, .slice e1 cn.length f1, .slice e2 cd.length f2, .int .i64 pp] 35)).alloc (.cells #[.slice x1 t.ns.length y1, .slice x2 t.kids.length y2] 25)).heap.size = w.heap.size + 1 + 1 := by simp
 have sz3 : (((w.alloc (.cells #[.int .i64 io, .bool bc, .slice e1 cn.length f1, .slice e2 cd.length f2, .int .i64 pp] 35)).alloc (.cells #[.slice x1 t.ns.length y1, .slice x2 t.kids.length y2] 25)).alloc (.cells #[.slice x3 s.ns.length y3, .slice x4 s.kids.length y4] 25)).heap.size = w.heap.size + 1 + 1 + 1 := by simp
 have sz4 : ((((w.alloc (.cells #[.int .i64 io, .bool bc, .slice e1 cn.length f1, .slice e2 cd.length f2, .int .i64 pp] 35)).alloc (.cells #[.slice x1 t.ns.length y1, .slice x2 t.kids.length y2] 25)).alloc (.cells #[.slice x3 s.ns.length y3, .slice x4 s.kids.length y4] 25)).alloc (.cells #[.slice none 0 0, .slice none 0 0] 25)).heap.size = w.heap.size + 1 + 1 + 1 + 1 := by simp
 rw [World.size_alloc] at X
 rw [sz2] at Y
 rw [sz3] at R
 have HI : Hid (DyIn D (f + 1) w bc e1 e2 cn cd f1 f2 x1 x2 x3 x4 t.ns.length y1 t.kids.length y2 s.ns.length y3 s.kids.length y4 t s) := hI
 have HNE : Hid (t.ns = s.ns) := hne
 clear k1 k2 k3 k4 k34 k24 hI hne
 have Hsz : Hid (sizeF t.ns = ((0 : Int), 0)) := hsz
 clear hsz
 have q0 := E.cell 0 rfl
 have q1 := E.cell 1 rfl
 have q2 := E.cell 2 rfl
 have q3 := E.cell 3 rfl
 have q4 := E.cell 4 rfl
 have a0 := X.cell 0 rfl
 have a1 := X.cell 1 rfl
 have b0 := Y.cell 0 rfl
 have b1 := Y.cell 1 rfl
 go_enter Tryz.func7, Tryz.ntmps7
 go_wp2_with fail
 generalize hA' : (((w.alloc (.cells #[.int .i64 io, .bool bc, .slice e1 cn.length f1, .slice e2 cd.length f2, .int .i64 pp] 35)).alloc (.cells #[.slice x1 t.ns.length y1, .slice x2 t.kids.length y2] 25)).alloc (.cells #[.slice x3 s.ns.length y3, .slice x4 s.kids.length y4] 25)).alloc (.cells #[.slice none 0 0, .slice none 0 0] 25) = v at *
 clear hA' q0 q1 q2 q3 q4 a0 a1 b0 b1
 refine (dyadOf_log hK (HI.out.below g)).mono ?_
 rintro e w1 ⟨rfl, hf1, p1⟩
 obtain ⟨bh, hbh⟩ : ∃ b, v.heap.size + 1 + 1 + 1 + d = b := ⟨_, rfl⟩
 rw [hbh] at hf1
 rw [hbh]
 have HF1 : Hid (w1.cell? ⟨bh, 0, none⟩ = some (.func (.func kf) #[] #[])) := hf1
 clear hf1 hbh
 have s1 := p1.size
 have X1 := X.below p1 (by omega)
 have Y1 := Y.below p1 (by omega)
 have R1 := R.below p1 (by omega)
 have g1 : Below w.heap.size w w1 := g.trans (p1.mono g.size)
 have HI1 := HI.out.below g1
 have HC1 := together_same (D := D) (w := w1) (x2 := x2) (n2 := t.kids.length) (y2 := y2) (x4 := x4) (n4 := s.kids.length) (y4 := y4) HI1.hD HI1.va.1 HI1.vb.1 HNE.out
 have a0 := X1.cell 0 rfl
 have a1 := X1.cell 1 rfl
 have b0 := Y1.cell 0 rfl
 have b1 := Y1.cell 1 rfl
 clear HI1
 go_wp2_with fail
 clear a0 a1 b0 b1
 refine HC1.mono ?_
 rintro e w2 ⟨rfl, p2⟩
 have s2 := p2.size
 have X2 := X1.below p2 (by omega)
 have Y2 := Y1.below p2 (by omega)
 have R2 := R1.below p2 (by omega)
 have g2 : Below w.heap.size w w2 := g1.trans (p2.mono g1.size)
 have a0 := X2.cell 0 rfl
 have a1 := X2.cell 1 rfl
 have b0 := Y2.cell 0 rfl
 have b1 := Y2.cell 1 rfl
 have p3 := below_alloc w2 (.cells #[.slice x1 t.ns.length y1, .slice x2 t.kids.length y2] 25)
 have p4 := below_alloc (w2.alloc (.cells #[.slice x1 t.ns.length y1, .slice x2 t.kids.length y2] 25)) (.cells #[.slice x3 s.ns.length y3, .slice x4 s.kids.length y4] 25)
 have p34 : Below w2.heap.size w2 ((w2.alloc (.cells #[.slice x1 t.ns.length y1, .slice x2 t.kids.length y2] 25)).alloc (.cells #[.slice x3 s.ns.length y3, .slice x4 s.kids.length y4] 25)) := p3.trans (p4.mono (by simp))
 have XA := (boxA_new w2 #[.slice x1 t.ns.length y1, .slice x2 t.kids.length y2] 25).below p4 (by simp)
 have YB := boxA_new (w2.alloc (.cells #[.slice x1 t.ns.length y1, .slice x2 t.kids.length y2] 25)) #[.slice x3 s.ns.length y3, .slice x4 s.kids.length y4] 25
 rw [World.size_alloc] at YB
 have sz6 : ((w2.alloc (.cells #[.slice x1 t.ns.length y1, .slice x2 t.kids.length y2] 25)).alloc (.cells #[.slice x3 s.ns.length y3, .slice x4 s.kids.length y4] 25)).heap.size = w2.heap.size + 1 + 1 := by simp
 have g4 : Below w.heap.size w ((w2.alloc (.cells #[.slice x1 t.ns.length y1, .slice x2 t.kids.length y2] 25)).alloc (.cells #[.slice x3 s.ns.length y3, .slice x4 s.kids.length y4] 25)) := g2.trans (p34.mono g2.size)
 have R4 := R2.below p34 (by omega)
 have HI4 := HI.out.below g4
 have hf2 := (p2.cell (p := ⟨bh, 0, none⟩) (lt_of_cellT HF1.out)).trans HF1.out
 have hf4 := (p34.cell (p := ⟨bh, 0, none⟩) (lt_of_cellT hf2)).trans hf2
 clear hf2
 go_wp2_with fail
 clear a0 a1 b0 b1
 refine (pairsOf_any (w := w2)).mono ?_
 rintro e w5 ⟨rfl, hw5⟩
 rw [← hw5] at XA YB sz6 g4 R4 HI4 hf4
 have HF5 : Hid (w5.cell? ⟨bh, 0, none⟩ = some (.func (.func kf) #[] #[])) := hf4
 have HI5 : Hid (DyIn D (f + 1) w5 bc e1 e2 cn cd f1 f2 x1 x2 x3 x4 t.ns.length y1 t.kids.length y2 s.ns.length y3 s.kids.length y4 t s) := HI4
 clear hw5 p3 p4 p34 HI4 hf4
 have HC5 := whole_empty (gl := gl) (bh := bh) (ba := w2.heap.size) (bb := w2.heap.size + 1) HI5.out.hD HI5.out.va.1 Hsz.out
 have HC6 : Hid (Calls Tryz.prog 20 _ w5 _) := HC5
 clear HC5
 have s5 : w2.heap.size ≤ w5.heap.size := by omega
 have s5' : w5.heap.size ≤ w2.heap.size + 1 + 1 := by omega
 clear sz6
 go_wp2_with fail
 refine HC6.out.mono ?_
 rintro e w6 ⟨x5, y5, b3, d3, rfl, hv, p6⟩
 have s6 := p6.size
 have R6 := R4.below p6 (by omega)
 have HV : Hid (ArV 1 (Fr w5.heap.size w6.heap.size) w6 (.slice x5 t.ns.length y5) (.slice b3 1 d3) (arrT t.ns [wholeT 0])) := hv
 have g6 : Below w.heap.size w w6 := g4.trans (p6.mono g4.size)
 clear hv
 have r0 := R6.cell 0 rfl
 have r1 := R6.cell 1 rfl
 have f0 := R6.frozen 0
 have f1' := R6.frozen 1
 have Q := boxA_s1 (boxA_s0 R6 (.slice x5 t.ns.length y5)) (.slice b3 1 d3)
 have j0 := Q.cell 0 rfl
 have j1 := Q.cell 1 rfl
 go_wp2
 refine bodyPost_ret (v := .tuple #[.agg #[.slice x5 t.ns.length y5, .slice b3 1 d3], .int .i64 0]) (by simp [results, Tryz.results7, go_sem, j0, j1]) rfl ?_
 refine ⟨x5, y5, b3, d3, rfl, ArV.imp (fun q hq => ⟨by have := hq.1; omega, by rw [set1_size, set1_size]; exact hq.2⟩) (fun q hq => by rw [set1_other (by show ¬ w.heap.size + 1 + 1 + 1 = q; have := hq.1; omega), set1_other (by show ¬ w.heap.size + 1 + 1 + 1 = q; have := hq.1; omega)]) 1 1 _ _ _ (Nat.le_refl _) HV.out, Below.set2 g6 (by omega) _ _⟩
end
end Go.Proofs.YtmijanocljmaeaaGreat

/- scalar.ofOne: the functions of a number; which glyphs have one. -/
namespace Go.Proofs.YtmijanocljmaeaaGreat
set_option linter.unusedVariables false
set_option linter.unusedSimpArgs false
open Go.RowKit

def tab1 : List (Int × Value) := [(43, .func (.func 47) #[] #[]), (45, .func (.func 48) #[] #[]), (215, .func (.func 49) #[] #[]), (247, .func (.func 51) #[] #[]), (8968, .func (.func 52) #[] #[]), (8970, .func (.func 53) #[] #[]), (124, .func (.func 54) #[] #[]), (42, .func (.func 55) #[] #[]), (33, .func (.func 56) #[] #[]), (126, .func (.func 57) #[] #[])]
set_option maxRecDepth 100000 in
set_option maxHeartbeats 16000000 in
theorem ofOne_any (w : World) : Calls Tryz.prog 25 #[] w fun e w' => e = .returned (.map (some w.heap.size)) ∧ MapIs w' w.heap.size tab1 ∧ Below w.heap.size w w' := by
 have hmm := @run_makeMap Tryz.prog
 have u0 := MapIs.new w
 have km := below_alloc w (.map #[] 0)
 have sv : (w.alloc (.map #[] 0)).heap.size = w.heap.size + 1 := by simp
 go_enter Tryz.func25, Tryz.ntmps25
 generalize hV : w.alloc (.map #[] 0) = v0 at *
 have p0 := Kp.refl w.heap.size v0
 obtain ⟨v1, r1, u1, q1, t1⟩ := MapIs.put (P := Tryz.prog) (mty := 66) (k := 43) (v := .func (.func 47) #[] #[]) Tryz.underlying66 Tryz.underlying21 u0 (by simp)
 have p1 := p0.trans q1
 obtain ⟨v2, r2, u2, q2, t2⟩ := MapIs.put (P := Tryz.prog) (mty := 66) (k := 45) (v := .func (.func 48) #[] #[]) Tryz.underlying66 Tryz.underlying21 u1 (by simp)
 have p2 := p1.trans q2
 obtain ⟨v3, r3, u3, q3, t3⟩ := MapIs.put (P := Tryz.prog) (mty := 66) (k := 215) (v := .func (.func 49) #[] #[]) Tryz.underlying66 Tryz.underlying21 u2 (by simp)
 have p3 := p2.trans q3
 obtain ⟨v4, r4, u4, q4, t4⟩ := MapIs.put (P := Tryz.prog) (mty := 66) (k := 247) (v := .func (.func 51) #[] #[]) Tryz.underlying66 Tryz.underlying21 u3 (by simp)
 have p4 := p3.trans q4
 obtain ⟨v5, r5, u5, q5, t5⟩ := MapIs.put (P := Tryz.prog) (mty := 66) (k := 8968) (v := .func (.func 52) #[] #[]) Tryz.underlying66 Tryz.underlying21 u4 (by simp)
 have p5 := p4.trans q5
 obtain ⟨v6, r6, u6, q6, t6⟩ := MapIs.put (P := Tryz.prog) (mty := 66) (k := 8970) (v := .func (.func 53) #[] #[]) Tryz.underlying66 Tryz.underlying21 u5 (by simp)
 have p6 := p5.trans q6
 obtain ⟨v7, r7, u7, q7, t7⟩ := MapIs.put (P := Tryz.prog) (mty := 66) (k := 124) (v := .func (.func 54) #[] #[]) Tryz.underlying66 Tryz.underlying21 u6 (by simp)
 have p7 := p6.trans q7
 obtain ⟨v8, r8, u8, q8, t8⟩ := MapIs.put (P := Tryz.prog) (mty := 66) (k := 42) (v := .func (.func 55) #[] #[]) Tryz.underlying66 Tryz.underlying21 u7 (by simp)
 have p8 := p7.trans q8
 obtain ⟨v9, r9, u9, q9, t9⟩ := MapIs.put (P := Tryz.prog) (mty := 66) (k := 33) (v := .func (.func 56) #[] #[]) Tryz.underlying66 Tryz.underlying21 u8 (by simp)
 have p9 := p8.trans q9
 obtain ⟨v10, r10, u10, q10, t10⟩ := MapIs.put (P := Tryz.prog) (mty := 66) (k := 126) (v := .func (.func 57) #[] #[]) Tryz.underlying66 Tryz.underlying21 u9 (by simp)
 have p10 := p9.trans q10
 simp only [List.nil_append, List.cons_append] at u10
 go_wp2_with fail
 go_ret
 exact ⟨rfl, u10, km.trans (p10.below (Nat.le_refl _) (by omega))⟩
end Go.Proofs.YtmijanocljmaeaaGreat

/- scalar.Monadic at not, of a row of bits. -/
namespace Go.Proofs.YtmijanocljmaeaaGreat
set_option linter.unusedVariables false
set_option linter.unusedSimpArgs false
open Go.RowKit

theorem zero_mon (w : World) : (zeroValue 65).run Tryz.prog w = .ok .nilFunc w := by kernel_rfl
theorem eq_nilM (fn : Fn) (x y : Array Value) (w : World) : (binOp BinOp.eql 65 (.func fn x y) .nilFunc).run Tryz.prog w = .ok (.bool false) w := by kernel_rfl
/-- What is handed in: a right array, a right tolerance. -/
structure MoIn (D : Nat → Prop) (f : Nat) (w : World) (bc : Bool) (e1 e2 : Option Addr) (cn cd : List Int) (f1 f2 : Nat) (x1 x2 : Option Addr) (n1 y1 n2 y2 : Nat) (t : Tr) : Prop where
 hD : ∀ g, D g → g < w.heap.size
 va : ArV f D w (.slice x1 n1 y1) (.slice x2 n2 y2) t
 rn : Rd w.heap.size w (.slice e1 cn.length f1) cn
 rd : Rd w.heap.size w (.slice e2 cd.length f2) cd
 rc : RightP bc cn cd
 ra : (measF 16 t).isSome = true
theorem MoIn.below {D : Nat → Prop} {f : Nat} {w w' : World} {bc : Bool} {e1 e2 : Option Addr} {cn cd : List Int} {f1 f2 : Nat} {x1 x2 : Option Addr} {n1 y1 n2 y2 : Nat} {t : Tr} (h : MoIn D f w bc e1 e2 cn cd f1 f2 x1 x2 n1 y1 n2 y2 t) (k : Below w.heap.size w w') : MoIn D f w' bc e1 e2 cn cd f1 f2 x1 x2 n1 y1 n2 y2 t :=
 ⟨fun g hg => Nat.lt_of_lt_of_le (h.hD g hg) k.size, h.va.agree (Agree.of k h.hD), (h.rn.below k).mono k.size, (h.rd.below k).mono k.size, h.rc, h.ra⟩
section
variable {D : Nat → Prop} {f : Nat} {w : World} {io pp : Int} {bc : Bool} {e1 e2 : Option Addr} {cn cd : List Int} {f1 f2 : Nat} {gS oS gA oA : Nat} {y1 m cA : Nat} {t : Tr} {L : List Tr}
set_option maxRecDepth 100000 in
set_option maxHeartbeats 16000000 in
theorem monadic_not (hI : MoIn D f w bc e1 e2 cn cd f1 f2 (some ⟨gS, oS, none⟩) (some ⟨gA, oA, none⟩) 1 y1 m cA t) (HT : Hid (∀ W, Below w.heap.size w W → Calls Tryz.prog 27 #[.func (.func 57) #[] #[], .agg #[.slice (some ⟨gS, oS, none⟩) 1 y1, .slice (some ⟨gA, oA, none⟩) m cA]] W fun e w' => ∃ x5 y5 b3 d3, e = .returned (.tuple #[.agg #[.slice x5 1 y5, .slice b3 m d3], .int .i64 0]) ∧ ArV 1 (Fr W.heap.size w'.heap.size) w' (.slice x5 1 y5) (.slice b3 m d3) (arrT t.ns L) ∧ Below W.heap.size W w')) :
    Calls Tryz.prog 11 #[.agg #[.int .i64 io, .bool bc, .slice e1 cn.length f1, .slice e2 cd.length f2, .int .i64 pp], .int .i32 126, .agg #[.slice (some ⟨gS, oS, none⟩) 1 y1, .slice (some ⟨gA, oA, none⟩) m cA]] w fun e w' => ∃ x5 y5 b3 d3, e = .returned (.tuple #[.agg #[.slice x5 1 y5, .slice b3 m d3], .int .i64 0]) ∧ ArV 1 (Fr w.heap.size w'.heap.size) w' (.slice x5 1 y5) (.slice b3 m d3) (arrT t.ns L) ∧ Below w.heap.size w w' := by
 have k1 := below_alloc w (.cells #[.int .i64 io, .bool bc, .slice e1 cn.length f1, .slice e2 cd.length f2, .int .i64 pp] 35)
 have k2 := below_alloc (w.alloc (.cells #[.int .i64 io, .bool bc, .slice e1 cn.length f1, .slice e2 cd.length f2, .int .i64 pp] 35)) (.cells #[.slice (some ⟨gS, oS, none⟩) 1 y1, .slice (some ⟨gA, oA, none⟩) m cA] 25)
 have k3 := below_alloc ((w.alloc (.cells #[.int .i64 io, .bool bc, .slice e1 cn.length f1, .slice e2 cd.length f2, .int .i64 pp] 35)).alloc (.cells #[.slice (some ⟨gS, oS, none⟩) 1 y1, .slice (some ⟨gA, oA, none⟩) m cA] 25)) (.cells #[.slice none 0 0, .slice none 0 0] 25)
 have k23 : Below (w.alloc (.cells #[.int .i64 io, .bool bc, .slice e1 cn.length f1, .slice e2 cd.length f2, .int .i64 pp] 35)).heap.size (w.alloc (.cells #[.int .i64 io, .bool bc, .slice e1 cn.length f1, .slice e2 cd.length f2, .int .i64 pp] 35)) (((w.alloc (.cells #[.int .i64 io, .bool bc, .slice e1 cn.length f1, .slice e2 cd.length f2, .int .i64 pp] 35)).alloc (.cells #[.slice (some ⟨gS, oS, none⟩) 1 y1, .slice (some ⟨gA, oA, none⟩) m cA] 25)).alloc (.cells #[.slice none 0 0, .slice none 0 0] 25)) := k2.trans (k3.mono (by simp))
 have g : Below w.heap.size w (((w.alloc (.cells #[.int .i64 io, .bool bc, .slice e1 cn.length f1, .slice e2 cd.length f2, .int .i64 pp] 35)).alloc (.cells #[.slice (some ⟨gS, oS, none⟩) 1 y1, .slice (some ⟨gA, oA, none⟩) m cA] 25)).alloc (.cells #[.slice none 0 0, .slice none 0 0] 25)) := k1.trans (k23.mono (by simp))
 have E := (boxA_new w #[.int .i64 io, .bool bc, .slice e1 cn.length f1, .slice e2 cd.length f2, .int .i64 pp] 35).below k23 (by simp)
 have X := (boxA_new (w.alloc (.cells #[.int .i64 io, .bool bc, .slice e1 cn.length f1, .slice e2 cd.length f2, .int .i64 pp] 35)) #[.slice (some ⟨gS, oS, none⟩) 1 y1, .slice (some ⟨gA, oA, none⟩) m cA] 25).below k3 (by simp)
 have R := boxA_new ((w.alloc (.cells #[.int .i64 io, .bool bc, .slice e1 cn.length f1, .slice e2 cd.length f2, .int .i64 pp] 35)).alloc (.cells #[.slice (some ⟨gS, oS, none⟩) 1 y1, .slice (some ⟨gA, oA, none⟩) m cA] 25)) #[.slice none 0 0, .slice none 0 0] 25
 have sz2 : ((w.alloc (.cells #[.int .i64 io, .bool bc, .slice e1 cn.length f1, .slice e2 cd.length f2, .int .i64 pp] 35)).alloc (.cells #[.slice (some ⟨gS, oS, none⟩) 1 y1, .slice (some ⟨gA, oA, none⟩) m cA] 25)).heap.size = w.heap.size + 1 + 1 := by simp
 have sz3 : (((w.alloc (.cells #[.int .i64 io, .bool bc, .slice e1 cn.length f1, .slice e2 cd.length f2, .int .i64 pp] 35)).alloc (.cells #[.slice (some ⟨gS, oS, none⟩) 1 y1, .slice (some ⟨gA, oA, none⟩) m cA] 25)).alloc (.cells #[.slice none 0 0, .slice none 0 0] 25)).heap.size = w.heap.size + 1 + 1 + 1 := by simp
 rw [World.size_alloc] at X
 rw [sz2] at R
 have HI : Hid (MoIn D f w bc e1 e2 cn cd f1 f2 (some ⟨gS, oS, none⟩) (some ⟨gA, oA, none⟩) 1 y1 m cA t) := hI
 clear k1 k2 k3 k23 hI
 go_enter Tryz.func11, Tryz.ntmps11
 go_wp2_with fail
 generalize hA : (((w.alloc (.cells #[.int .i64 io, .bool bc, .slice e1 cn.length f1, .slice e2 cd.length f2, .int .i64 pp] 35)).alloc (.cells #[.slice (some ⟨gS, oS, none⟩) 1 y1, .slice (some ⟨gA, oA, none⟩) m cA] 25)).alloc (.cells #[.slice none 0 0, .slice none 0 0] 25)) = v at *
 clear hA
 refine (ofOne_any v).mono ?_
 rintro e w1 ⟨rfl, hT, b1⟩
 have s1 := b1.size
 have hget : (Instr.lookup 66 (.map (some v.heap.size)) (.int .i32 126) false).run Tryz.prog w1 = .ok (.func (.func 57) #[] #[]) w1 := MapIs.get (k := 126) Tryz.underlying66 Tryz.underlying21 (zero_mon w1) hT
 rw [sz3] at hget
 have E1 := E.below b1 (by omega)
 have X1 := X.below b1 (by omega)
 have R1 := R.below b1 (by omega)
 have g1 : Below w.heap.size w w1 := g.trans (b1.mono g.size)
 have HI1 := HI.out.below g1
 have a0 := X1.cell 0 rfl
 have a1 := X1.cell 1 rfl
 clear hT
 have C1 := right3_any HI1.hD HI1.va
 rw [HI1.ra] at C1
 have HC1 : Hid (Calls Tryz.prog 13 _ w1 _) := C1
 have hnf := eq_nilM
 clear C1 HI1
 go_wp2_with fail
 clear hget a0 a1
 refine HC1.out.mono ?_
 rintro e w2 ⟨rfl, b2⟩
 have s2 := b2.size
 have E2 := E1.below b2 (by omega)
 have X2 := X1.below b2 (by omega)
 have R2 := R1.below b2 (by omega)
 have g2 : Below w.heap.size w w2 := g1.trans (b2.mono g1.size)
 have HI2 := HI.out.below g2
 have HC3 : Hid (Calls Tryz.prog 26 _ w2 _) := right_rat (b := bc) HI2.rn HI2.rd (Nat.le_refl _)
 have a1 := E2.cell 1 rfl
 have a2 := E2.cell 2 rfl
 have a3 := E2.cell 3 rfl
 have HRC : Hid (RightP bc cn cd) := HI2.rc
 clear HI2
 go_wp2_with fail
 clear a1 a2 a3
 refine HC3.out.mono ?_
 rintro e w4 ⟨⟨r, rfl, hr⟩, b4⟩
 obtain rfl := hr.2 HRC.out
 clear hr
 have s4 := b4.size
 have X4 := X2.below b4 (by omega)
 have R4 := R2.below b4 (by omega)
 have g4 : Below w.heap.size w w4 := g2.trans (b4.mono g2.size)
 have HC4 := HT.out w4 g4
 have a0 := X4.cell 0 rfl
 have a1 := X4.cell 1 rfl
 go_wp2_with fail
 clear a0 a1
 refine HC4.mono ?_
 rintro e w6 ⟨x5, y5, b3, d3, rfl, hv, p6⟩
 have s6 := p6.size
 have R6 := R4.below p6 (by omega)
 have HV : Hid (ArV 1 (Fr w4.heap.size w6.heap.size) w6 (.slice x5 1 y5) (.slice b3 m d3) (arrT t.ns L)) := hv
 have g6 : Below w.heap.size w w6 := g4.trans (p6.mono g4.size)
 clear hv HC4
 have r0 := R6.cell 0 rfl
 have r1 := R6.cell 1 rfl
 have f0 := R6.frozen 0
 have f1' := R6.frozen 1
 have Q := boxA_s1 (boxA_s0 R6 (.slice x5 1 y5)) (.slice b3 m d3)
 have j0 := Q.cell 0 rfl
 have j1 := Q.cell 1 rfl
 go_wp2
 refine bodyPost_ret (v := .tuple #[.agg #[.slice x5 1 y5, .slice b3 m d3], .int .i64 0]) (by simp [results, Tryz.results11, go_sem, j0, j1]) rfl ?_
 refine ⟨x5, y5, b3, d3, rfl, ArV.imp (fun q hq => ⟨by have := hq.1; omega, by rw [set1_size, set1_size]; exact hq.2⟩) (fun q hq => by rw [set1_other (by show ¬ w.heap.size + 1 + 1 = q; have := hq.1; omega), set1_other (by show ¬ w.heap.size + 1 + 1 = q; have := hq.1; omega)]) 1 1 _ _ _ (Nat.le_refl _) HV.out, Below.set2 g6 (by omega) _ _⟩
end
end Go.Proofs.YtmijanocljmaeaaGreat

/- Rows of bits as arrays. -/
namespace Go.Proofs.YtmijanocljmaeaaGreat
set_option linter.unusedVariables false
set_option linter.unusedSimpArgs false
open Go.RowKit

/-- A row of bits. -/
def rowT (q : List Bool) : Tr := vecT (wholeT 0) ((q.map bitI).map wholeT)
theorem rowT_is {q : List Bool} (h : 0 < q.length) (h5 : q.length ≤ 50) : rowT q = arrT [(q.length : Int)] (q.map (fun h => wholeT (bitI h))) := by
 have ht : ((q.map bitI).map wholeT).take 4096 = (q.map bitI).map wholeT := List.take_of_length_le (by simp; omega)
 unfold rowT vecT vecK
 rw [ht, if_neg (by simp; intro e; subst e; simp at h)]
 simp [List.map_map, Function.comp_def]
theorem rowT_meas (q : List Bool) : (measF 16 (rowT q)).isSome = true := meas_row (l := q.map bitI) (fun x hx => by
 obtain ⟨h, _, rfl⟩ := List.mem_map.1 hx
 cases h <;> simp [bitI])
theorem rowT_size {q : List Bool} (h5 : q.length ≤ 50) : sizeF (rowT q).ns = ((q.length : Int), 0) := by
 rcases Nat.eq_zero_or_pos q.length with h | h
 · have : q = [] := List.eq_nil_of_length_eq_zero h
   subst this
   rfl
 · rw [rowT_is h h5]
   exact size_one (by omega) (by omega)
theorem rowT_ns {q : List Bool} (h5 : q.length ≤ 50) : (rowT q).ns = [(q.length : Int)] := by
 rcases Nat.eq_zero_or_pos q.length with h | h
 · have : q = [] := List.eq_nil_of_length_eq_zero h
   subst this
   rfl
 · rw [rowT_is h h5]
   rfl
theorem rowT_len {q : List Bool} (h5 : q.length ≤ 50) : (rowT q).kids.length = max 1 q.length := by
 rcases Nat.eq_zero_or_pos q.length with h | h
 · have : q = [] := List.eq_nil_of_length_eq_zero h
   subst this
   rfl
 · rw [rowT_is h h5]
   show (q.map (fun h => wholeT (bitI h))).length = _
   rw [List.length_map]
   omega
theorem rowT_bits {q : List Bool} (h : 0 < q.length) (h5 : q.length ≤ 50) : Bits q (rowT q).kids := by
 rw [rowT_is h h5]
 show q.map (fun h => wholeT (bitI h)) = _
 exact List.map_congr_left (fun x _ => wholeT_bit x)
section
variable {D : Nat → Prop} {f : Nat} {w : World} {io pp : Int} {bc : Bool} {e1 e2 : Option Addr} {cn cd : List Int} {f1 f2 : Nat} {x1 x2 x3 x4 : Option Addr} {n1 y1 n2 y2 n3 y3 n4 y4 : Nat} {gl : Int} {kf d : Nat} {op : Bool → Bool → Bool} {qa qb : List Bool} {m : Nat}
theorem dyadic_rows (hK : LogK gl kf op d) (hI : DyIn D f w bc e1 e2 cn cd f1 f2 x1 x2 x3 x4 n1 y1 n2 y2 n3 y3 n4 y4 (rowT qa) (rowT qb)) (hl : qa.length = qb.length) (h5 : qa.length ≤ 50) (hm : max 1 qa.length = m) :
    Calls Tryz.prog 7 #[.agg #[.int .i64 io, .bool bc, .slice e1 cn.length f1, .slice e2 cd.length f2, .int .i64 pp], .int .i32 gl, .agg #[.slice x1 n1 y1, .slice x2 n2 y2], .agg #[.slice x3 n3 y3, .slice x4 n4 y4]] w fun e w' => (∃ x5 y5 b3 d3, e = .returned (.tuple #[.agg #[.slice x5 1 y5, .slice b3 m d3], .int .i64 0]) ∧ ArV 1 (Fr w.heap.size w'.heap.size) w' (.slice x5 1 y5) (.slice b3 m d3) (rowT (List.zipWith op qa qb))) ∧ Below w.heap.size w w' := by
 subst hm
 have hns : (rowT qa).ns = (rowT qb).ns := by rw [rowT_ns h5, rowT_ns (by omega), hl]
 have hlz : (List.zipWith op qa qb).length = qa.length := by rw [List.length_zipWith]; omega
 rcases Nat.eq_zero_or_pos qa.length with h | h
 · have ea : qa = [] := List.eq_nil_of_length_eq_zero h
   have eb : qb = [] := List.eq_nil_of_length_eq_zero (by omega)
   subst ea eb
   refine (dyadic_empty hK hI rfl rfl).mono ?_
   rintro e w' ⟨x5, y5, b3, d3, rfl, hv, hb⟩
   exact ⟨⟨x5, y5, b3, d3, rfl, hv⟩, hb⟩
 · have hka := rowT_len h5
   have hkb := rowT_len (q := qb) (by omega)
   have hsz := rowT_size h5
   have e1 : (rowT qa).kids.length = qa.length := by omega
   have e2 : (rowT qb).kids.length = qa.length := by omega
   have hns1 := rowT_ns h5
   have ez := rowT_is (q := List.zipWith op qa qb) (by omega) (by omega)
   refine (dyadic_log hK hI hns (by omega) (rowT_bits h h5) (rowT_bits (by omega) (by omega)) (L := (List.zipWith op qa qb).map (fun h => wholeT (bitI h))) (by rw [hsz, e1]) (by omega) (by omega) (by rw [List.length_map, hlz, e1]) (fun i hi => by
    rw [e1] at hi ⊢
    rw [e2, Nat.mod_eq_of_lt hi]
    have hib : i < qb.length := by omega
    simp [List.getD_eq_getElem?_getD, List.getElem?_zipWith, hi, hib])).mono ?_
   rintro e w' ⟨x5, y5, b3, d3, rfl, hv, hb⟩
   refine ⟨⟨x5, y5, b3, d3, ?_, ?_⟩, hb⟩
   · rw [hns1, hka]; rfl
   · rw [ez, hlz]
     rw [hns1, hka] at hv
     exact hv
theorem monadic_rows (hI : MoIn D f w bc e1 e2 cn cd f1 f2 x1 x2 n1 y1 n2 y2 (rowT qa)) (h5 : qa.length ≤ 50) (hm : max 1 qa.length = m) :
    Calls Tryz.prog 11 #[.agg #[.int .i64 io, .bool bc, .slice e1 cn.length f1, .slice e2 cd.length f2, .int .i64 pp], .int .i32 126, .agg #[.slice x1 n1 y1, .slice x2 n2 y2]] w fun e w' => (∃ x5 y5 b3 d3, e = .returned (.tuple #[.agg #[.slice x5 1 y5, .slice b3 m d3], .int .i64 0]) ∧ ArV 1 (Fr w.heap.size w'.heap.size) w' (.slice x5 1 y5) (.slice b3 m d3) (rowT (qa.map (fun h => !h)))) ∧ Below w.heap.size w w' := by
 subst hm
 obtain ⟨f, rfl⟩ : ∃ f', f = f' + 1 := by
  cases f with
  | zero => exact hI.va.elim
  | succ f => exact ⟨f, rfl⟩
 have en1 := hI.va.1.len
 have en2 := hI.va.2.len
 have hns1 := rowT_ns h5
 have hka := rowT_len h5
 rw [hns1] at en1
 rw [hka] at en2
 subst en1
 subst en2
 obtain ⟨gS, oS, rfl⟩ : ∃ g o, x1 = some ⟨g, o, none⟩ := by
  obtain ⟨_, a, cap, e, _, _, _, hc⟩ := hI.va.1
  rcases hc with h0 | ⟨b, off, rfl, _⟩
  · rw [hns1] at h0; simp at h0
  · cases e; exact ⟨b, off, rfl⟩
 have hva := hI.va.2
 rw [hka] at hva
 obtain ⟨gA, oA, eA, hgA, hcA⟩ := hva.ptr (by omega)
 cases eA
 refine (monadic_not (L := if 0 < qa.length then (qa.map (fun h => !h)).map (fun h => wholeT (bitI h)) else [wholeT 0]) hI ?_).mono ?_
 · intro W hW
   have hI' := hI.below hW
   have hsh := hI'.va.1
   rw [hns1] at hsh ⊢
   have hvb := hI'.va.2
   rw [hka] at hvb
   obtain ⟨gB, oB, eB, hgB, hcB⟩ := hvb.ptr (by omega)
   cases eB
   rcases Nat.eq_zero_or_pos qa.length with h | h
   · have ea : qa = [] := List.eq_nil_of_length_eq_zero h
     subst ea
     exact through_not0 hI'.hD hsh
   · rw [if_pos h]
     have e1 : max 1 qa.length = qa.length := by omega
     rw [e1] at hcB ⊢
     exact through_not (qa := qa) hI'.hD hsh hgB (fun j hj => hcB j (by omega)) (by omega) (rowT_bits h h5) h (by omega) (by simp) (fun i hi => by simp [List.getD_eq_getElem?_getD, hi])
 · rintro e w' ⟨x5, y5, b3, d3, rfl, hv, hb⟩
   refine ⟨⟨x5, y5, b3, d3, rfl, ?_⟩, hb⟩
   rcases Nat.eq_zero_or_pos qa.length with h | h
   · have ea : qa = [] := List.eq_nil_of_length_eq_zero h
     subst ea
     exact hv
   · rw [rowT_is (by simpa using h) (by simpa using h5)]
     rw [if_pos h, hns1] at hv
     simpa using hv
end
end Go.Proofs.YtmijanocljmaeaaGreat
