/- scalar.whole at +, of arrays of whole numbers. -/
import Derived.Test.YtmijanocljmaeaaGreatKS3
import Derived.Test.YtmijanocljmaeaaGreatKS2
import Derived.Test.YtmijanocljmaeaaGreatK12
import Derived.Test.YtmijanocljmaeaaGreatKE
import Derived.Test.YtmijanocljmaeaaGreatJ6
namespace Go.Proofs.YtmijanocljmaeaaGreat
set_option linter.unusedVariables false
set_option linter.unusedSimpArgs false
open Go.RowKit

/-- Items that are whole numbers, not too great. -/
def Wholes (q : List Int) (l : List Tr) : Prop := l = q.map wholeT ∧ ∀ x ∈ q, -1000000 ≤ x ∧ x ≤ 1000000
theorem Wholes.at {q : List Int} {l : List Tr} (h : Wholes q l) {j : Nat} (hj : j < l.length) : l.getD j tr0 = wholeT (q.getD j 0) ∧ -1000000 ≤ q.getD j 0 ∧ q.getD j 0 ≤ 1000000 := by
 obtain ⟨rfl, hb⟩ := h
 rw [List.length_map] at hj
 have hm : q.getD j 0 ∈ q := by rw [List.getD_eq_getElem?_getD, List.getElem?_eq_getElem hj]; exact List.getElem_mem hj
 exact ⟨by simp [List.getD_eq_getElem?_getD, hj], hb _ hm⟩
theorem wholeT_parts {q : Int} (h0 : -1000000 ≤ q) (h1 : q ≤ 1000000) : (wholeT q).k = 1 ∧ WholeIs q (wholeT q).b (wholeT q).ns (wholeT q).ds ∧ (wholeT q).ns.length ≤ 2 ∧ (wholeT q).ds.length = 1 ∧ numT (wholeT q).b (wholeT q).ns (wholeT q).ds = wholeT q := by
 have h := wholeT_is (q := q) (by omega) (by omega)
 exact ⟨rfl, h, h.2.2.2.1, by rw [h.2.2.2.2]; rfl, rfl⟩
/-- The sum of two whole numbers. -/
theorem gives_sum {w w' : World} {e : Ending} {q r : Int} (hq0 : -1000000 ≤ q) (hq1 : q ≤ 1000000) (hr0 : -1000000 ≤ r) (hr1 : r ≤ 1000000) (h : Gives w (RightP (wholeT q).b (wholeT q).ns (wholeT q).ds ∧ RightP (wholeT r).b (wholeT r).ns (wholeT r).ds) (sg (wholeT q).b (val (wholeT q).ns) * val (wholeT r).ds + sg (wholeT r).b (val (wholeT r).ns) * val (wholeT q).ds) (val (wholeT q).ds * val (wholeT r).ds) e w') :
    NumR w.heap.size (fun b ns ds => numT b ns ds = wholeT (q + r)) e w' ∧ Below w.heap.size w w' := by
 obtain ⟨_, a1, _, _, _⟩ := wholeT_parts hq0 hq1
 obtain ⟨_, a2, _, _, _⟩ := wholeT_parts hr0 hr1
 have a3 := wholeT_is (q := q + r) (by omega) (by omega)
 have e1 := a1.sg
 have e2 := a2.sg
 have e3 := a3.sg
 rw [e1.1, e1.2, e2.1, e2.2] at h
 obtain ⟨hb, z1, u1, z2, u2, rfl, o1, o2⟩ := gives_is h ⟨a1.right, a2.right⟩ (by omega) a3.right (by rw [e3.1, e3.2]; omega)
 exact ⟨⟨_, z1, _, u1, z2, _, u2, rfl, o1, o2, rfl⟩, hb⟩
theorem own_nilT (base : Nat) (w : World) : Own base w (.slice none 0 0) [] := ⟨lim_nil, World.ownsRow_nil _ _ _ _⟩
section
variable {D : Nat → Prop} {f : Nat} {w v : World} {p gA oA gB oB : Nat} {la lb : List Tr} {qa qb : List Int} {j k : Nat} {cc : Int}
/-- Both items lie in memory still. -/
theorem at_item {g o : Nat} {l : List Tr} (hD : ∀ g, D g → g < w.heap.size) (hg : D g) (hc : ∀ j, j < l.length → ItC (ArV f D w) D w g (o + j * 6) (l.getD j tr0)) (hj : j < l.length) (hk : Kp p w v) (hp : ∀ g, D g → g ≠ p) :
    ∃ a1 c1 a2 c2, v.cell? ⟨g, o + j * 6, none⟩ = some (.int .u8 (l.getD j tr0).k) ∧ v.cell? ⟨g, o + j * 6 + 1, none⟩ = some (.bool (l.getD j tr0).b) ∧ v.cell? ⟨g, o + j * 6 + 2, none⟩ = some (.slice a1 (l.getD j tr0).ns.length c1) ∧ v.cell? ⟨g, o + j * 6 + 3, none⟩ = some (.slice a2 (l.getD j tr0).ds.length c2) ∧ Rd v.heap.size v (.slice a1 (l.getD j tr0).ns.length c1) (l.getD j tr0).ns ∧ Rd v.heap.size v (.slice a2 (l.getD j tr0).ds.length c2) (l.getD j tr0).ds := by
 obtain ⟨a1, c1, a2, c2, a3, c3, ⟨e0, e1, e2, e3, _, _⟩, hv⟩ := hc j hj
 have hag : Agree D w v := fun q hq => hk.block q (hD q hq) (hp q hq)
 have hDv : ∀ q, D q → q < v.heap.size := fun q hq => Nat.lt_of_lt_of_le (hD q hq) hk.size
 exact ⟨a1, c1, a2, c2, hk.cell (hp g hg) e0, hk.cell (hp g hg) e1, hk.cell (hp g hg) e2, hk.cell (hp g hg) e3, (hv.rn.imp (fun _ h => h) hag).rd hDv, (hv.rd.imp (fun _ h => h) hag).rd hDv⟩
variable (hD : ∀ g, D g → g < w.heap.size) (hp : ∀ g, D g → g ≠ p) (hgA : D gA) (hgB : D gB) (hcA : ∀ j, j < la.length → ItC (ArV f D w) D w gA (oA + j * 6) (la.getD j tr0)) (hcB : ∀ j, j < lb.length → ItC (ArV f D w) D w gB (oB + j * 6) (lb.getD j tr0)) (wA : Wholes qa la) (wB : Wholes qb lb) (hj : j < la.length) (hk : k < lb.length)
include hD hp hgA hgB hcA hcB wA wB hj hk
theorem items_look {gw : Nat} (kv : Kp p w v) (P : BoxA v p 90 #[.int .i32 43, .func (.func 40) #[] #[.pointer (some ⟨gw, 0, none⟩)], .int .i64 cc, .int .i64 0]) (hc : 0 < cc) :
    Calls Tryz.prog 100 #[.pointer (some ⟨p, 0, none⟩), .pointer (some ⟨gA, oA + j * 6, none⟩), .pointer (some ⟨gB, oB + k * 6, none⟩)] v fun e w' => ItemR v.heap.size (fun _ _ _ => True) e w' ∧ Below v.heap.size v w' := by
 obtain ⟨a1, c1, a2, c2, e0, e1, e2, e3, r1, r2⟩ := at_item hD hgA hcA hj kv hp
 obtain ⟨a3, c3, a4, c4, g0, g1, g2, g3, r3, r4⟩ := at_item hD hgB hcB hk kv hp
 obtain ⟨h1, h2, h3⟩ := wA.at hj
 obtain ⟨h4, h5, h6⟩ := wB.at hk
 obtain ⟨x1, x2, x3, x4, x5⟩ := wholeT_parts h2 h3
 obtain ⟨y1, y2, y3, y4, y5⟩ := wholeT_parts h5 h6
 rw [h1] at e0 e1 e2 e3 r1 r2
 rw [h4] at g0 g1 g2 g3 r3 r4
 rw [x1] at e0
 rw [y1] at g0
 have lA : gA < v.heap.size := Nat.lt_of_lt_of_le (hD gA hgA) kv.size
 have lB : gB < v.heap.size := Nat.lt_of_lt_of_le (hD gB hgB) kv.size
 refine items_num lA lB ⟨e0, e1, e2, e3, g0, g1, g2, g3⟩ ?_
 intro v' hb
 have P' := P.below hb P.lt
 refine (numbers_look P'.lt (P'.cell 0 rfl) (P'.cell 2 rfl) (P'.cell 3 rfl) hc (by omega)).mono ?_
 rintro e w' ⟨rfl, hb'⟩
 exact ⟨⟨false, none, [], 0, none, [], 0, rfl, own_nilT _ _, own_nilT _ _, trivial⟩, hb'⟩
theorem items_work (kv : Kp p w v) (P : BoxA v p 90 #[.int .i32 43, .func (.func 77) #[] #[], .int .i64 cc, .int .i64 16384]) (hc : ¬ 16384 < cc) :
    Calls Tryz.prog 100 #[.pointer (some ⟨p, 0, none⟩), .pointer (some ⟨gA, oA + j * 6, none⟩), .pointer (some ⟨gB, oB + k * 6, none⟩)] v fun e w' => ItemR v.heap.size (fun b ns ds => numT b ns ds = wholeT (qa.getD j 0 + qb.getD k 0)) e w' ∧ Below v.heap.size v w' := by
 obtain ⟨a1, c1, a2, c2, e0, e1, e2, e3, r1, r2⟩ := at_item hD hgA hcA hj kv hp
 obtain ⟨a3, c3, a4, c4, g0, g1, g2, g3, r3, r4⟩ := at_item hD hgB hcB hk kv hp
 obtain ⟨h1, h2, h3⟩ := wA.at hj
 obtain ⟨h4, h5, h6⟩ := wB.at hk
 obtain ⟨x1, x2, x3, x4, x5⟩ := wholeT_parts h2 h3
 obtain ⟨y1, y2, y3, y4, y5⟩ := wholeT_parts h5 h6
 rw [h1] at e0 e1 e2 e3 r1 r2
 rw [h4] at g0 g1 g2 g3 r3 r4
 rw [x1] at e0
 rw [y1] at g0
 have lA : gA < v.heap.size := Nat.lt_of_lt_of_le (hD gA hgA) kv.size
 have lB : gB < v.heap.size := Nat.lt_of_lt_of_le (hD gB hgB) kv.size
 refine items_num lA lB ⟨e0, e1, e2, e3, g0, g1, g2, g3⟩ ?_
 intro v' hb
 have P' := P.below hb P.lt
 refine (numbers_work P'.lt (P'.cell 1 rfl) (P'.cell 2 rfl) (P'.cell 3 rfl) hc ((r1.below hb).mono hb.size) ((r2.below hb).mono hb.size) ((r3.below hb).mono hb.size) ((r4.below hb).mono hb.size)).mono ?_
 intro e w' hG
 exact gives_sum h2 h3 h5 h6 hG
end
end Go.Proofs.YtmijanocljmaeaaGreat

/- scalar.whole at +, of arrays of whole numbers. -/
namespace Go.Proofs.YtmijanocljmaeaaGreat
set_option linter.unusedVariables false
set_option linter.unusedSimpArgs false
open Go.RowKit

theorem run_storeF {P : Program} (w : World) (a : Addr) (m : Mode) (fn : Fn) (x y : Array Value) : (store a (.func fn x y) m).run P w = stored P w a (.func fn x y) m := run_store P w a _ m rfl
section
variable {D : Nat → Prop} {f : Nat} {w : World} {ba bb gA oA cA gB oB cB n : Nat} {la lb L : List Tr} {qa qb : List Int} {x1 : Option Addr} {y1 : Nat} {sh : List Int}
set_option maxRecDepth 100000 in
set_option maxHeartbeats 16000000 in
theorem whole_plus (hD : ∀ g, D g → g < w.heap.size) (hgA : D gA) (hgB : D gB) (hcA : ∀ j, j < la.length → ItC (ArV f D w) D w gA (oA + j * 6) (la.getD j tr0)) (hcB : ∀ j, j < lb.length → ItC (ArV f D w) D w gB (oB + j * 6) (lb.getD j tr0)) (wA : Wholes qa la) (wB : Wholes qb lb) (hA : 0 < la.length) (hB : 0 < lb.length)
    (ca : w.cell? ⟨ba, 1, none⟩ = some (.slice (some ⟨gA, oA, none⟩) la.length cA)) (cb : w.cell? ⟨bb, 1, none⟩ = some (.slice (some ⟨gB, oB, none⟩) lb.length cB)) (hsh : RdN D w (.slice x1 sh.length y1) sh) (hsz : sizeF sh = ((n : Int), 0)) (hn : 0 < n) (hn4 : n ≤ 4096) (hL : L.length = n) (hLi : ∀ i, i < n → L.getD i tr0 = wholeT (qa.getD (i % la.length) 0 + qb.getD (i % lb.length) 0)) :
    Calls Tryz.prog 20 #[.int .i32 43, .func (.func 77) #[] #[], .slice x1 sh.length y1, .func (.func 43) #[] #[.pointer (some ⟨ba, 0, none⟩), .pointer (some ⟨bb, 0, none⟩)]] w fun e w' => ∃ x5 y5 b3 d3, e = .returned (.tuple #[.agg #[.slice x5 sh.length y5, .slice b3 n d3], .int .i64 0]) ∧ ArV 1 (Fr w.heap.size w'.heap.size) w' (.slice x5 sh.length y5) (.slice b3 n d3) (arrT sh L) ∧ Below w.heap.size w w' := by
 have k1 := below_alloc w (.cells #[.int .i32 43] 21)
 have k2 := below_alloc (w.alloc (.cells #[.int .i32 43] 21)) (.cells #[.slice none 0 0, .slice none 0 0] 25)
 have k3 := below_alloc ((w.alloc (.cells #[.int .i32 43] 21)).alloc (.cells #[.slice none 0 0, .slice none 0 0] 25)) (.cells #[.int .i32 43, .func (.func 40) #[] #[.pointer (some ⟨w.heap.size, 0, none⟩)], .int .i64 0, .int .i64 0] 90)
 have k23 : Below (w.alloc (.cells #[.int .i32 43] 21)).heap.size (w.alloc (.cells #[.int .i32 43] 21)) (((w.alloc (.cells #[.int .i32 43] 21)).alloc (.cells #[.slice none 0 0, .slice none 0 0] 25)).alloc (.cells #[.int .i32 43, .func (.func 40) #[] #[.pointer (some ⟨w.heap.size, 0, none⟩)], .int .i64 0, .int .i64 0] 90)) := k2.trans (k3.mono (by simp))
 have g : Below w.heap.size w (((w.alloc (.cells #[.int .i32 43] 21)).alloc (.cells #[.slice none 0 0, .slice none 0 0] 25)).alloc (.cells #[.int .i32 43, .func (.func 40) #[] #[.pointer (some ⟨w.heap.size, 0, none⟩)], .int .i64 0, .int .i64 0] 90)) := k1.trans (k23.mono (by simp))
 have Gl := (boxA_new w #[.int .i32 43] 21).below k23 (by simp)
 have R := (boxA_new (w.alloc (.cells #[.int .i32 43] 21)) #[.slice none 0 0, .slice none 0 0] 25).below k3 (by simp)
 have Pl := boxA_new ((w.alloc (.cells #[.int .i32 43] 21)).alloc (.cells #[.slice none 0 0, .slice none 0 0] 25)) #[.int .i32 43, .func (.func 40) #[] #[.pointer (some ⟨w.heap.size, 0, none⟩)], .int .i64 0, .int .i64 0] 90
 have sz2 : ((w.alloc (.cells #[.int .i32 43] 21)).alloc (.cells #[.slice none 0 0, .slice none 0 0] 25)).heap.size = w.heap.size + 1 + 1 := by simp
 have sz3 : (((w.alloc (.cells #[.int .i32 43] 21)).alloc (.cells #[.slice none 0 0, .slice none 0 0] 25)).alloc (.cells #[.int .i32 43, .func (.func 40) #[] #[.pointer (some ⟨w.heap.size, 0, none⟩)], .int .i64 0, .int .i64 0] 90)).heap.size = w.heap.size + 1 + 1 + 1 := by simp
 rw [World.size_alloc] at R
 rw [sz2] at Pl
 have lba : ba < w.heap.size := lt_of_cellT ca
 have lbb : bb < w.heap.size := lt_of_cellT cb
 have cA3 := fun j hj => (hcA j hj).imp hgA (fun _ h => h) (Agree.of g hD) (fun _ _ _ h => h.agree (Agree.of g hD))
 have cB3 := fun j hj => (hcB j hj).imp hgB (fun _ h => h) (Agree.of g hD) (fun _ _ _ h => h.agree (Agree.of g hD))
 have C1 := through_look Pl (hsh.imp (fun _ h => h) (Agree.of g hD)) (fun q hq => by have := hD q hq; omega) hsz hn hn4 ((g.cell (p := ⟨ba, 1, none⟩) lba).trans ca) ((g.cell (p := ⟨bb, 1, none⟩) lbb).trans cb) (by omega) (by omega) hA hB (fun i hi v' kv P => items_look (D := D) (fun q hq => by have := hD q hq; omega) (fun q hq => by have := hD q hq; omega) hgA hgB cA3 cB3 wA wB (Nat.mod_lt i hA) (Nat.mod_lt i hB) kv P (by omega))
 clear cA3 cB3
 have HD : Hid (∀ g, D g → g < w.heap.size) := hD
 have HcA : Hid (∀ j, j < la.length → ItC (ArV f D w) D w gA (oA + j * 6) (la.getD j tr0)) := hcA
 have HcB : Hid (∀ j, j < lb.length → ItC (ArV f D w) D w gB (oB + j * 6) (lb.getD j tr0)) := hcB
 have HwA : Hid (Wholes qa la) := wA
 have HwB : Hid (Wholes qb lb) := wB
 have Hsh : Hid (RdN D w (.slice x1 sh.length y1) sh) := hsh
 have Hsz : Hid (sizeF sh = ((n : Int), 0)) := hsz
 have HL : Hid (L.length = n) := hL
 have HLi : Hid (∀ i, i < n → L.getD i tr0 = wholeT (qa.getD (i % la.length) 0 + qb.getD (i % lb.length) 0)) := hLi
 have Hca : Hid (w.cell? ⟨ba, 1, none⟩ = some (.slice (some ⟨gA, oA, none⟩) la.length cA)) := ca
 have Hcb : Hid (w.cell? ⟨bb, 1, none⟩ = some (.slice (some ⟨gB, oB, none⟩) lb.length cB)) := cb
 clear hD hcA hcB wA wB hsh hsz hL hLi ca cb k1 k2 k3 k23
 have g0 := Gl.cell 0 rfl
 have hb1 : (Instr.build 90 #[(0, .int .i32 43), (1, .func (.func 40) #[] #[.pointer (some ⟨w.heap.size, 0, none⟩)])]).run Tryz.prog ((w.alloc (.cells #[.int .i32 43] 21)).alloc (.cells #[.slice none 0 0, .slice none 0 0] 25)) = .ok (.agg #[.int .i32 43, .func (.func 40) #[] #[.pointer (some ⟨w.heap.size, 0, none⟩)], .int .i64 0, .int .i64 0]) ((w.alloc (.cells #[.int .i32 43] 21)).alloc (.cells #[.slice none 0 0, .slice none 0 0] 25)) := by kernel_rfl
 have hst := @run_storeF Tryz.prog
 go_enter Tryz.func20, Tryz.ntmps20
 go_wp2_with fail
 clear g0 hb1
 generalize hA3 : ((w.alloc (.cells #[.int .i32 43] 21)).alloc (.cells #[.slice none 0 0, .slice none 0 0] 25)).alloc (.cells #[.int .i32 43, .func (.func 40) #[] #[.pointer (some ⟨w.heap.size, 0, none⟩)], .int .i64 0, .int .i64 0] 90) = v at *
 clear hA3
 refine C1.mono ?_
 rintro e w4 ⟨⟨x6, y6, rfl⟩, k4⟩
 clear C1
 have s4 := k4.size
 have kb4 : Below w.heap.size w w4 := g.trans (k4.below (by omega) (by omega))
 have G4 : BoxA w4 w.heap.size 21 #[.int .i32 43] := by
  have := Gl
  unfold BoxA at this ⊢
  rw [k4.block _ (by omega) (by omega)]; exact this
 have R4 : BoxA w4 (w.heap.size + 1) 25 #[.slice none 0 0, .slice none 0 0] := by
  have := R
  unfold BoxA at this ⊢
  rw [k4.block _ (by omega) (by omega)]; exact this
 have k5 := below_alloc w4 (.cells #[.slice x6 sh.length y6, .slice none 0 0] 25)
 have G5 := G4.below k5 G4.lt
 have g5 := G5.cell 0 rfl
 have lR4 := R4.lt
 have R5 := R4.below k5 R4.lt
 have sz5 : (w4.alloc (.cells #[.slice x6 sh.length y6, .slice none 0 0] 25)).heap.size = w4.heap.size + 1 := by simp
 have kb5 : Below w.heap.size w (w4.alloc (.cells #[.slice x6 sh.length y6, .slice none 0 0] 25)) := kb4.trans (k5.mono (by omega))
 have k6 := below_alloc (w4.alloc (.cells #[.slice x6 sh.length y6, .slice none 0 0] 25)) (.cells #[.int .i32 43, .func (.func 77) #[] #[], .int .i64 0, .int .i64 16384] 90)
 have Pw := boxA_new (w4.alloc (.cells #[.slice x6 sh.length y6, .slice none 0 0] 25)) #[.int .i32 43, .func (.func 77) #[] #[], .int .i64 0, .int .i64 16384] 90
 have kb6 : Below w.heap.size w ((w4.alloc (.cells #[.slice x6 sh.length y6, .slice none 0 0] 25)).alloc (.cells #[.int .i32 43, .func (.func 77) #[] #[], .int .i64 0, .int .i64 16384] 90)) := kb5.trans (k6.mono (by omega))
 have R6 := R5.below k6 (by omega)
 have sz6 : ((w4.alloc (.cells #[.slice x6 sh.length y6, .slice none 0 0] 25)).alloc (.cells #[.int .i32 43, .func (.func 77) #[] #[], .int .i64 0, .int .i64 16384] 90)).heap.size = w4.heap.size + 1 + 1 := by simp
 rw [sz5] at Pw
 have cA6 := fun j hj => (HcA.out j hj).imp hgA (fun _ h => h) (Agree.of kb6 HD.out) (fun _ _ _ h => h.agree (Agree.of kb6 HD.out))
 have cB6 := fun j hj => (HcB.out j hj).imp hgB (fun _ h => h) (Agree.of kb6 HD.out) (fun _ _ _ h => h.agree (Agree.of kb6 HD.out))
 have C2 := through_work (L := L) Pw (Hsh.out.imp (fun _ h => h) (Agree.of kb6 HD.out)) (fun q hq => by have := HD.out q hq; omega) Hsz.out hn hn4 HL.out ((kb6.cell (p := ⟨ba, 1, none⟩) lba).trans Hca.out) ((kb6.cell (p := ⟨bb, 1, none⟩) lbb).trans Hcb.out) (by omega) (by omega) hA hB (fun i hi v' kv P => by
  rw [HLi.out i hi]
  exact items_work (D := D) (fun q hq => by have := HD.out q hq; omega) (fun q hq => by have := HD.out q hq; omega) hgA hgB cA6 cB6 HwA.out HwB.out (Nat.mod_lt i hA) (Nat.mod_lt i hB) kv P (by omega))
 clear cA6 cB6
 have hb2 : (Instr.build 90 #[(0, .int .i32 43), (1, .func (.func 77) #[] #[]), (3, .int .i64 16384)]).run Tryz.prog (w4.alloc (.cells #[.slice x6 sh.length y6, .slice none 0 0] 25)) = .ok (.agg #[.int .i32 43, .func (.func 77) #[] #[], .int .i64 0, .int .i64 16384]) (w4.alloc (.cells #[.slice x6 sh.length y6, .slice none 0 0] 25)) := by kernel_rfl
 go_wp2_with fail
 clear g5 hb2
 generalize hA6 : (w4.alloc (.cells #[.slice x6 sh.length y6, .slice none 0 0] 25)).alloc (.cells #[.int .i32 43, .func (.func 77) #[] #[], .int .i64 0, .int .i64 16384] 90) = u at *
 clear hA6
 refine C2.mono ?_
 rintro e w7 ⟨x5, y5, b3, d3, rfl, hv, k7⟩
 clear C2
 have s7 := k7.size
 have kb7 : Below w.heap.size w w7 := kb6.trans (k7.below (by omega) (by omega))
 have R7 : BoxA w7 (w.heap.size + 1) 25 #[.slice none 0 0, .slice none 0 0] := by
  have := R6
  unfold BoxA at this ⊢
  rw [k7.block _ (by omega) (by omega)]; exact this
 have r0 := R7.cell 0 rfl
 have r1 := R7.cell 1 rfl
 have f0 := R7.frozen 0
 have f1 := R7.frozen 1
 have Q := boxA_s1 (boxA_s0 R7 (.slice x5 sh.length y5)) (.slice b3 n d3)
 have j0 := Q.cell 0 rfl
 have j1 := Q.cell 1 rfl
 have HV : Hid (ArV 1 (Fr u.heap.size w7.heap.size) w7 (.slice x5 sh.length y5) (.slice b3 n d3) (arrT sh L)) := hv
 clear hv
 go_wp2
 refine bodyPost_ret (v := .tuple #[.agg #[.slice x5 sh.length y5, .slice b3 n d3], .int .i64 0]) (by simp [results, Tryz.results20, go_sem, j0, j1]) rfl ?_
 refine ⟨x5, y5, b3, d3, rfl, ArV.imp (fun q hq => ⟨by have := hq.1; omega, by rw [set1_size, set1_size]; exact hq.2⟩) (fun q hq => by rw [set1_other (by show ¬ w.heap.size + 1 = q; have := hq.1; omega), set1_other (by show ¬ w.heap.size + 1 = q; have := hq.1; omega)]) 1 1 _ _ _ (Nat.le_refl _) HV.out, Below.set2 kb7 (by omega) _ _⟩
end
end Go.Proofs.YtmijanocljmaeaaGreat

/- scalar.isEmpty, isOne, together. -/
namespace Go.Proofs.YtmijanocljmaeaaGreat
set_option linter.unusedVariables false
set_option linter.unusedSimpArgs false
open Go.RowKit

section
variable {w : World} {x1 x2 x3 x4 : Option Addr} {n1 y1 n2 y2 n3 y3 n4 y4 : Nat}
set_option maxRecDepth 100000 in
set_option maxHeartbeats 16000000 in
theorem contains_nil (a : Option Addr) (c : Nat) : Calls Tryz.prog 116 #[.slice a 0 c, .int .i64 0] w fun e w' => e = .returned (.bool false) ∧ w' = w := by
 have hI : Calls Tryz.prog 151 #[.slice a 0 c, .int .i64 0] w fun e w' => e = .returned (.int .i64 (-1)) ∧ w' = w := by
  go_enter Tryz.func151, Tryz.ntmps151
  go_wp2
  go_loopw [8] (fun s wr => wr = w ∧ s = .int .i64 0) (fun _ _ => 0)
  case atStart => exact ⟨rfl, rfl⟩
  case round =>
   obtain ⟨rfl, rfl⟩ := hrel
   go_wp2
   go_ret
   exact ⟨rfl, rfl⟩
 go_enter Tryz.func116, Tryz.ntmps116
 go_wp2_with fail
 refine hI.mono ?_
 rintro e w' ⟨rfl, hw⟩
 obtain rfl := hw.symm
 go_wp2
 go_ret
 exact ⟨rfl, rfl⟩
set_option maxRecDepth 100000 in
set_option maxHeartbeats 16000000 in
theorem isOne_no (h : ¬ n2 = 1) : Calls Tryz.prog 39 #[.agg #[.slice x1 n1 y1, .slice x2 n2 y2]] w fun e w' => e = .returned (.bool false) ∧ Below w.heap.size w w' := by
 have k0 := below_alloc w (.cells #[.slice x1 n1 y1, .slice x2 n2 y2] 25)
 have X := boxA_new w #[.slice x1 n1 y1, .slice x2 n2 y2] 25
 have z1 := X.cell 1 rfl
 have hd : ((n2 : Int) == 1) = false := by rw [beq_eq_false_iff_ne]; omega
 go_enter Tryz.func39, Tryz.ntmps39
 go_wp2
 go_ret
 exact ⟨rfl, k0⟩
set_option maxRecDepth 100000 in
set_option maxHeartbeats 16000000 in
theorem isOne_yes : Calls Tryz.prog 39 #[.agg #[.slice x1 0 y1, .slice x2 1 y2]] w fun e w' => e = .returned (.bool true) ∧ Below w.heap.size w w' := by
 have hE : ∀ v : World, Calls Tryz.prog 61 #[.agg #[.slice x1 0 y1, .slice x2 1 y2]] v fun e w' => e = .returned (.bool false) ∧ Below v.heap.size v w' := fun v => by
  have k0 := below_alloc v (.cells #[.slice x1 0 y1, .slice x2 1 y2] 25)
  have X := boxA_new v #[.slice x1 0 y1, .slice x2 1 y2] 25
  have z0 := X.cell 0 rfl
  go_enter Tryz.func61, Tryz.ntmps61
  go_wp2_with fail
  refine (contains_nil _ _).mono ?_
  rintro e w' ⟨rfl, hw⟩
  obtain rfl := hw.symm
  go_wp2
  go_ret
  exact ⟨rfl, k0⟩
 have k0 := below_alloc w (.cells #[.slice x1 0 y1, .slice x2 1 y2] 25)
 have X := boxA_new w #[.slice x1 0 y1, .slice x2 1 y2] 25
 have z0 := X.cell 0 rfl
 have z1 := X.cell 1 rfl
 go_enter Tryz.func39, Tryz.ntmps39
 go_wp2_with fail
 refine (hE _).mono ?_
 rintro e w' ⟨rfl, hb⟩
 go_wp2
 go_ret
 exact ⟨rfl, k0.trans (hb.mono (by simp))⟩
variable {D : Nat → Prop} {sa sb : List Int}
def TogIn (w : World) (D : Nat → Prop) (x1 : Option Addr) (n1 y1 : Nat) (sa : List Int) (x3 : Option Addr) (n3 y3 : Nat) (sb : List Int) : Prop := (∀ g, D g → g < w.heap.size) ∧ RdN D w (.slice x1 n1 y1) sa ∧ RdN D w (.slice x3 n3 y3) sb ∧ ¬ sa = sb
set_option maxRecDepth 100000 in
set_option maxHeartbeats 16000000 in
theorem together_scalar (hT : TogIn w D x1 n1 y1 sa x3 n3 y3 sb) (hna : ¬ n2 = 1) (h3 : n3 = 0) (h4 : n4 = 1) : Calls Tryz.prog 19 #[.agg #[.slice x1 n1 y1, .slice x2 n2 y2], .agg #[.slice x3 n3 y3, .slice x4 n4 y4]] w fun e w' => e = .returned (.tuple #[.slice x1 n1 y1, .int .i64 0]) ∧ Below w.heap.size w w' := by
 subst h3
 subst h4
 obtain ⟨hD, h1, h2, hne⟩ := hT
 have k1 := below_alloc w (.cells #[.slice x1 n1 y1, .slice x2 n2 y2] 25)
 have k2 := below_alloc (w.alloc (.cells #[.slice x1 n1 y1, .slice x2 n2 y2] 25)) (.cells #[.slice x3 0 y3, .slice x4 1 y4] 25)
 have X := (boxA_new w #[.slice x1 n1 y1, .slice x2 n2 y2] 25).below k2 (by simp)
 have Y := boxA_new (w.alloc (.cells #[.slice x1 n1 y1, .slice x2 n2 y2] 25)) #[.slice x3 0 y3, .slice x4 1 y4] 25
 rw [World.size_alloc] at Y
 have g : Below w.heap.size w ((w.alloc (.cells #[.slice x1 n1 y1, .slice x2 n2 y2] 25)).alloc (.cells #[.slice x3 0 y3, .slice x4 1 y4] 25)) := k1.trans (k2.mono (by simp))
 have sv : ((w.alloc (.cells #[.slice x1 n1 y1, .slice x2 n2 y2] 25)).alloc (.cells #[.slice x3 0 y3, .slice x4 1 y4] 25)).heap.size = w.heap.size + 1 + 1 := by simp
 have C1 := equalN_any (h1.imp (fun _ h => h) (Agree.of g hD)) (h2.imp (fun _ h => h) (Agree.of g hD))
 rw [decide_eq_false hne] at C1
 have x0 := X.cell 0 rfl
 have y0 := Y.cell 0 rfl
 clear k1 k2 hD h1 h2 hne
 go_enter Tryz.func19, Tryz.ntmps19
 go_wp2_with fail
 generalize hA : (w.alloc (.cells #[.slice x1 n1 y1, .slice x2 n2 y2] 25)).alloc (.cells #[.slice x3 0 y3, .slice x4 1 y4] 25) = v at *
 clear hA x0 y0
 refine C1.mono ?_
 rintro e w1 ⟨rfl, q1⟩
 clear C1
 have X1 := X.below q1 (by omega)
 have Y1 := Y.below q1 (by omega)
 have s1 := q1.size
 have x0 := X1.cell 0 rfl
 have x1' := X1.cell 1 rfl
 go_wp2_with fail
 clear x0 x1'
 refine (isOne_no hna).mono ?_
 rintro e w2 ⟨rfl, q2⟩
 have s2 := q2.size
 have X2 := X1.below q2 (by omega)
 have Y2 := Y1.below q2 (by omega)
 have y0 := Y2.cell 0 rfl
 have y1' := Y2.cell 1 rfl
 go_wp2_with fail
 clear y0 y1'
 refine (isOne_yes).mono ?_
 rintro e w3 ⟨rfl, q3⟩
 have s3 := q3.size
 have X3 := X2.below q3 (by omega)
 have Y3 := Y2.below q3 (by omega)
 have x0 := X3.cell 0 rfl
 have y0 := Y3.cell 0 rfl
 go_wp2
 go_ret2
 exact ⟨rfl, ((g.trans (q1.mono g.size)).trans (q2.mono (by omega))).trans (q3.mono (by omega))⟩
set_option maxRecDepth 100000 in
set_option maxHeartbeats 16000000 in
theorem together_len (hT : TogIn w D x1 n1 y1 sa x3 n3 y3 sb) (hna : ¬ n2 = 1) (hnb : ¬ n4 = 1) (hr : ((n1 : Int) != (n3 : Int)) = false) : Calls Tryz.prog 19 #[.agg #[.slice x1 n1 y1, .slice x2 n2 y2], .agg #[.slice x3 n3 y3, .slice x4 n4 y4]] w fun e w' => e = .returned (.tuple #[.slice none 0 0, .int .i64 5]) ∧ Below w.heap.size w w' := by
 obtain ⟨hD, h1, h2, hne⟩ := hT
 have k1 := below_alloc w (.cells #[.slice x1 n1 y1, .slice x2 n2 y2] 25)
 have k2 := below_alloc (w.alloc (.cells #[.slice x1 n1 y1, .slice x2 n2 y2] 25)) (.cells #[.slice x3 n3 y3, .slice x4 n4 y4] 25)
 have X := (boxA_new w #[.slice x1 n1 y1, .slice x2 n2 y2] 25).below k2 (by simp)
 have Y := boxA_new (w.alloc (.cells #[.slice x1 n1 y1, .slice x2 n2 y2] 25)) #[.slice x3 n3 y3, .slice x4 n4 y4] 25
 rw [World.size_alloc] at Y
 have g : Below w.heap.size w ((w.alloc (.cells #[.slice x1 n1 y1, .slice x2 n2 y2] 25)).alloc (.cells #[.slice x3 n3 y3, .slice x4 n4 y4] 25)) := k1.trans (k2.mono (by simp))
 have sv : ((w.alloc (.cells #[.slice x1 n1 y1, .slice x2 n2 y2] 25)).alloc (.cells #[.slice x3 n3 y3, .slice x4 n4 y4] 25)).heap.size = w.heap.size + 1 + 1 := by simp
 have C1 := equalN_any (h1.imp (fun _ h => h) (Agree.of g hD)) (h2.imp (fun _ h => h) (Agree.of g hD))
 rw [decide_eq_false hne] at C1
 have x0 := X.cell 0 rfl
 have y0 := Y.cell 0 rfl
 clear k1 k2 hD h1 h2 hne
 go_enter Tryz.func19, Tryz.ntmps19
 go_wp2_with fail
 generalize hA : (w.alloc (.cells #[.slice x1 n1 y1, .slice x2 n2 y2] 25)).alloc (.cells #[.slice x3 n3 y3, .slice x4 n4 y4] 25) = v at *
 clear hA x0 y0
 refine C1.mono ?_
 rintro e w1 ⟨rfl, q1⟩
 clear C1
 have X1 := X.below q1 (by omega)
 have Y1 := Y.below q1 (by omega)
 have s1 := q1.size
 have x0 := X1.cell 0 rfl
 have x1' := X1.cell 1 rfl
 go_wp2_with fail
 clear x0 x1'
 refine (isOne_no hna).mono ?_
 rintro e w2 ⟨rfl, q2⟩
 have s2 := q2.size
 have X2 := X1.below q2 (by omega)
 have Y2 := Y1.below q2 (by omega)
 have y0 := Y2.cell 0 rfl
 have y1' := Y2.cell 1 rfl
 go_wp2_with fail
 clear y0 y1'
 refine (isOne_no hnb).mono ?_
 rintro e w3 ⟨rfl, q3⟩
 have s3 := q3.size
 have X3 := X2.below q3 (by omega)
 have Y3 := Y2.below q3 (by omega)
 have x0 := X3.cell 0 rfl
 have y0 := Y3.cell 0 rfl
 go_wp2
 go_ret2
 exact ⟨rfl, ((g.trans (q1.mono g.size)).trans (q2.mono (by omega))).trans (q3.mono (by omega))⟩
end
end Go.Proofs.YtmijanocljmaeaaGreat

/- scalar.dyadOf, Dyadic at +. -/
namespace Go.Proofs.YtmijanocljmaeaaGreat
set_option linter.unusedVariables false
set_option linter.unusedSimpArgs false
open Go.RowKit

theorem zero_dyad (w : World) : (zeroValue 49).run Tryz.prog w = .ok .nilFunc w := by kernel_rfl
theorem eq_nilF (fn : Fn) (x y : Array Value) (w : World) : (binOp BinOp.eql 49 (.func fn x y) .nilFunc).run Tryz.prog w = .ok (.bool false) w := by kernel_rfl
/-- What is handed in: two right arrays, a right tolerance. -/
structure DyIn (D : Nat → Prop) (f : Nat) (w : World) (bc : Bool) (e1 e2 : Option Addr) (cn cd : List Int) (f1 f2 : Nat) (x1 x2 x3 x4 : Option Addr) (n1 y1 n2 y2 n3 y3 n4 y4 : Nat) (t s : Tr) : Prop where
 hD : ∀ g, D g → g < w.heap.size
 va : ArV f D w (.slice x1 n1 y1) (.slice x2 n2 y2) t
 vb : ArV f D w (.slice x3 n3 y3) (.slice x4 n4 y4) s
 rn : Rd w.heap.size w (.slice e1 cn.length f1) cn
 rd : Rd w.heap.size w (.slice e2 cd.length f2) cd
 rc : RightP bc cn cd
 ra : (measF 16 t).isSome = true
 rb : (measF 16 s).isSome = true
theorem DyIn.below {D : Nat → Prop} {f : Nat} {w w' : World} {bc : Bool} {e1 e2 : Option Addr} {cn cd : List Int} {f1 f2 : Nat} {x1 x2 x3 x4 : Option Addr} {n1 y1 n2 y2 n3 y3 n4 y4 : Nat} {t s : Tr} (h : DyIn D f w bc e1 e2 cn cd f1 f2 x1 x2 x3 x4 n1 y1 n2 y2 n3 y3 n4 y4 t s) (k : Below w.heap.size w w') : DyIn D f w' bc e1 e2 cn cd f1 f2 x1 x2 x3 x4 n1 y1 n2 y2 n3 y3 n4 y4 t s :=
 ⟨fun g hg => Nat.lt_of_lt_of_le (h.hD g hg) k.size, h.va.agree (Agree.of k h.hD), h.vb.agree (Agree.of k h.hD), (h.rn.below k).mono k.size, (h.rd.below k).mono k.size, h.rc, h.ra, h.rb⟩
section
variable {D : Nat → Prop} {f : Nat} {w : World} {io pp : Int} {bc : Bool} {e1 e2 : Option Addr} {cn cd : List Int} {f1 f2 : Nat} {x1 x2 x3 x4 : Option Addr} {n1 y1 n2 y2 n3 y3 n4 y4 : Nat} {t s : Tr}
set_option maxRecDepth 100000 in
set_option maxHeartbeats 16000000 in
theorem dyadOf_plus (hI : DyIn D f w bc e1 e2 cn cd f1 f2 x1 x2 x3 x4 n1 y1 n2 y2 n3 y3 n4 y4 t s) :
    Calls Tryz.prog 18 #[.agg #[.int .i64 io, .bool bc, .slice e1 cn.length f1, .slice e2 cd.length f2, .int .i64 pp], .int .i32 43, .agg #[.slice x1 n1 y1, .slice x2 n2 y2], .agg #[.slice x3 n3 y3, .slice x4 n4 y4]] w fun e w' => e = .returned (.tuple #[.func (.func 77) #[] #[], .int .i64 0]) ∧ Below w.heap.size w w' := by
 have k1 := below_alloc w (.cells #[.int .i64 io, .bool bc, .slice e1 cn.length f1, .slice e2 cd.length f2, .int .i64 pp] 35)
 have k2 := below_alloc (w.alloc (.cells #[.int .i64 io, .bool bc, .slice e1 cn.length f1, .slice e2 cd.length f2, .int .i64 pp] 35)) (.cells #[.slice x1 n1 y1, .slice x2 n2 y2] 25)
 have k3 := below_alloc ((w.alloc (.cells #[.int .i64 io, .bool bc, .slice e1 cn.length f1, .slice e2 cd.length f2, .int .i64 pp] 35)).alloc (.cells #[.slice x1 n1 y1, .slice x2 n2 y2] 25)) (.cells #[.slice x3 n3 y3, .slice x4 n4 y4] 25)
 have k23 : Below (w.alloc (.cells #[.int .i64 io, .bool bc, .slice e1 cn.length f1, .slice e2 cd.length f2, .int .i64 pp] 35)).heap.size (w.alloc (.cells #[.int .i64 io, .bool bc, .slice e1 cn.length f1, .slice e2 cd.length f2, .int .i64 pp] 35)) (((w.alloc (.cells #[.int .i64 io, .bool bc, .slice e1 cn.length f1, .slice e2 cd.length f2, .int .i64 pp] 35)).alloc (.cells #[.slice x1 n1 y1, .slice x2 n2 y2] 25)).alloc (.cells #[.slice x3 n3 y3, .slice x4 n4 y4] 25)) := k2.trans (k3.mono (by simp))
 have g : Below w.heap.size w (((w.alloc (.cells #[.int .i64 io, .bool bc, .slice e1 cn.length f1, .slice e2 cd.length f2, .int .i64 pp] 35)).alloc (.cells #[.slice x1 n1 y1, .slice x2 n2 y2] 25)).alloc (.cells #[.slice x3 n3 y3, .slice x4 n4 y4] 25)) := k1.trans (k23.mono (by simp))
 have E := (boxA_new w #[.int .i64 io, .bool bc, .slice e1 cn.length f1, .slice e2 cd.length f2, .int .i64 pp] 35).below k23 (by simp)
 have X := (boxA_new (w.alloc (.cells #[.int .i64 io, .bool bc, .slice e1 cn.length f1, .slice e2 cd.length f2, .int .i64 pp] 35)) #[.slice x1 n1 y1, .slice x2 n2 y2] 25).below k3 (by simp)
 have Y := boxA_new ((w.alloc (.cells #[.int .i64 io, .bool bc, .slice e1 cn.length f1, .slice e2 cd.length f2, .int .i64 pp] 35)).alloc (.cells #[.slice x1 n1 y1, .slice x2 n2 y2] 25)) #[.slice x3 n3 y3, .slice x4 n4 y4] 25
 have sz2 : ((w.alloc (.cells #[.int .i64 io, .bool bc, .slice e1 cn.length f1, .slice e2 cd.length f2, .int .i64 pp] 35)).alloc (.cells #[.slice x1 n1 y1, .slice x2 n2 y2] 25)).heap.size = w.heap.size + 1 + 1 := by simp
 have sz3 : (((w.alloc (.cells #[.int .i64 io, .bool bc, .slice e1 cn.length f1, .slice e2 cd.length f2, .int .i64 pp] 35)).alloc (.cells #[.slice x1 n1 y1, .slice x2 n2 y2] 25)).alloc (.cells #[.slice x3 n3 y3, .slice x4 n4 y4] 25)).heap.size = w.heap.size + 1 + 1 + 1 := by simp
 rw [World.size_alloc] at X
 rw [sz2] at Y
 have HI : Hid (DyIn D f w bc e1 e2 cn cd f1 f2 x1 x2 x3 x4 n1 y1 n2 y2 n3 y3 n4 y4 t s) := hI
 clear k1 k2 k3 k23 hI
 have q1 := E.cell 1 rfl
 have q2 := E.cell 2 rfl
 have q3 := E.cell 3 rfl
 go_enter Tryz.func18, Tryz.ntmps18
 go_wp2_with fail
 generalize hA : ((w.alloc (.cells #[.int .i64 io, .bool bc, .slice e1 cn.length f1, .slice e2 cd.length f2, .int .i64 pp] 35)).alloc (.cells #[.slice x1 n1 y1, .slice x2 n2 y2] 25)).alloc (.cells #[.slice x3 n3 y3, .slice x4 n4 y4] 25) = v at *
 clear hA q1 q2 q3
 refine (ofTwo_any bc e1 e2 _ _ _ _ v).mono ?_
 rintro e w1 ⟨rfl, hT, b1⟩
 have s1 := b1.size
 have hget : (Instr.lookup 84 (.map (some (v.heap.size + 1))) (.int .i32 43) false).run Tryz.prog w1 = .ok (.func (.func 77) #[] #[]) w1 := MapIs.get (k := 43) Tryz.underlying84 Tryz.underlying21 (zero_dyad w1) hT.tab
 rw [sz3] at hget
 have E1 := E.below b1 (by omega)
 have X1 := X.below b1 (by omega)
 have Y1 := Y.below b1 (by omega)
 have g1 : Below w.heap.size w w1 := g.trans (b1.mono g.size)
 have HI1 := HI.out.below g1
 have a0 := X1.cell 0 rfl
 have a1 := X1.cell 1 rfl
 clear hT
 have C1 := right3_any HI1.hD HI1.va
 rw [HI1.ra] at C1
 have HC1 : Hid (Calls Tryz.prog 13 _ w1 _) := C1
 have hnf := eq_nilF
 clear C1 HI1
 go_wp2_with fail
 clear hget a0 a1
 refine HC1.out.mono ?_
 rintro e w2 ⟨rfl, b2⟩
 have s2 := b2.size
 have E2 := E1.below b2 (by omega)
 have Y2 := Y1.below b2 (by omega)
 have g2 : Below w.heap.size w w2 := g1.trans (b2.mono g1.size)
 have HI2 := HI.out.below g2
 have C2 := right3_any HI2.hD HI2.vb
 rw [HI2.rb] at C2
 have HC2 : Hid (Calls Tryz.prog 13 _ w2 _) := C2
 have a0 := Y2.cell 0 rfl
 have a1 := Y2.cell 1 rfl
 clear C2 HI2
 go_wp2_with fail
 clear a0 a1
 refine HC2.out.mono ?_
 rintro e w3 ⟨rfl, b3⟩
 have s3 := b3.size
 have E3 := E2.below b3 (by omega)
 have g3 : Below w.heap.size w w3 := g2.trans (b3.mono g2.size)
 have HI3 := HI.out.below g3
 have HC3 : Hid (Calls Tryz.prog 26 _ w3 _) := right_rat (b := bc) HI3.rn HI3.rd (Nat.le_refl _)
 have a1 := E3.cell 1 rfl
 have a2 := E3.cell 2 rfl
 have a3 := E3.cell 3 rfl
 have HRC : Hid (RightP bc cn cd) := HI3.rc
 clear HI3
 go_wp2_with fail
 clear a1 a2 a3
 refine HC3.out.mono ?_
 rintro e w4 ⟨⟨r, rfl, hr⟩, b4⟩
 obtain rfl := hr.2 HRC.out
 clear hr
 go_wp2
 go_ret2
 exact ⟨rfl, g3.trans (b4.mono g3.size)⟩
end
end Go.Proofs.YtmijanocljmaeaaGreat

/- scalar.Dyadic at +: a row of whole numbers and a scalar; two rows of different lengths. -/
namespace Go.Proofs.YtmijanocljmaeaaGreat
set_option linter.unusedVariables false
set_option linter.unusedSimpArgs false
open Go.RowKit

section
variable {D : Nat → Prop} {f : Nat} {w : World} {io pp : Int} {bc : Bool} {e1 e2 : Option Addr} {cn cd : List Int} {f1 f2 : Nat} {x1 x2 x3 x4 : Option Addr} {n1 y1 n2 y2 n3 y3 n4 y4 : Nat} {t s : Tr}
set_option maxRecDepth 100000 in
set_option maxHeartbeats 16000000 in
theorem pairsOf_any : Calls Tryz.prog 21 #[.agg #[.slice x1 n1 y1, .slice x2 n2 y2], .agg #[.slice x3 n3 y3, .slice x4 n4 y4]] w fun e w' => e = .returned (.func (.func 43) #[] #[.pointer (some ⟨w.heap.size, 0, none⟩), .pointer (some ⟨w.heap.size + 1, 0, none⟩)]) ∧ w' = (w.alloc (.cells #[.slice x1 n1 y1, .slice x2 n2 y2] 25)).alloc (.cells #[.slice x3 n3 y3, .slice x4 n4 y4] 25) := by
 go_enter Tryz.func21, Tryz.ntmps21
 go_wp2
 go_ret
 exact ⟨rfl, rfl⟩
set_option maxRecDepth 100000 in
set_option maxHeartbeats 16000000 in
theorem dyadic_scalar (hI : DyIn D f w bc e1 e2 cn cd f1 f2 x1 x2 x3 x4 n1 y1 n2 y2 n3 y3 n4 y4 t s) (hne : ¬ t.ns = s.ns) (hna : ¬ t.kids.length = 1) (hs0 : s.ns.length = 0) (hs1 : s.kids.length = 1) {qa qb : List Int} {L : List Tr} (wA : Wholes qa t.kids) (wB : Wholes qb s.kids) (hsz : sizeF t.ns = ((t.kids.length : Int), 0)) (hA : 0 < t.kids.length) (hA4 : t.kids.length ≤ 4096) (hL : L.length = t.kids.length) (hLi : ∀ i, i < t.kids.length → L.getD i tr0 = wholeT (qa.getD (i % t.kids.length) 0 + qb.getD (i % s.kids.length) 0)) :
    Calls Tryz.prog 7 #[.agg #[.int .i64 io, .bool bc, .slice e1 cn.length f1, .slice e2 cd.length f2, .int .i64 pp], .int .i32 43, .agg #[.slice x1 n1 y1, .slice x2 n2 y2], .agg #[.slice x3 n3 y3, .slice x4 n4 y4]] w fun e w' => ∃ x5 y5 b3 d3, e = .returned (.tuple #[.agg #[.slice x5 t.ns.length y5, .slice b3 t.kids.length d3], .int .i64 0]) ∧ ArV 1 (Fr w.heap.size w'.heap.size) w' (.slice x5 t.ns.length y5) (.slice b3 t.kids.length d3) (arrT t.ns L) ∧ Below w.heap.size w w' := by
 obtain ⟨f, rfl⟩ : ∃ f', f = f' + 1 := by
  cases f with
  | zero => exact hI.va.elim
  | succ f => exact ⟨f, rfl⟩
 have en1 := hI.va.1.len
 have en2 := hI.va.2.len
 have en3 := hI.vb.1.len
 have en4 := hI.vb.2.len
 subst en1
 subst en2
 subst en3
 subst en4
 have k1 := below_alloc w (.cells #[.int .i64 io, .bool bc, .slice e1 cn.length f1, .slice e2 cd.length f2, .int .i64 pp] 35)
 have k2 := below_alloc (w.alloc (.cells #[.int .i64 io, .bool bc, .slice e1 cn.length f1, .slice e2 cd.length f2, .int .i64 pp] 35)) (.cells #[.slice x1 t.ns.length y1, .slice x2 t.kids.length y2] 25)
 have k3 := below_alloc ((w.alloc (.cells #[.int .i64 io, .bool bc, .slice e1 cn.length f1, .slice e2 cd.length f2, .int .i64 pp] 35)).alloc (.cells #[.slice x1 t.ns.length y1, .slice x2 t.kids.length y2] 25)) (.cells #[.slice x3 s.ns.length y3, .slice x4 s.kids.length y4] 25)
 have k4 := below_alloc (((w.alloc (.cells #[.int .i64 io, .bool bc, .slice e1 cn.length f1, .slice e2 cd.length f2, .int .i64 pp] 35)).alloc (.cells #[.slice x1 t.ns.length y1, .slice x2 t.kids.length y2] 25)).alloc (.cells #[.slice x3 s.ns.length y3, .slice x4 s.kids.length y4] 25)) (.cells #[.slice none 0 0, .slice none 0 0] 25)
 have k34 : Below ((w.alloc (.cells #[.int .i64 io, .bool bc, .slice e1 cn.length f1, .slice e2 cd.length f2, .int .i64 pp] 35)).alloc (.cells #[.slice x1 t.ns.length y1, .slice x2 t.kids.length y2] 25)).heap.size ((w.alloc (.cells #[.int .i64 io, .bool bc, .slice e1 cn.length f1, .slice e2 cd.length f2, .int .i64 pp] 35)).alloc (.cells #[.slice x1 t.ns.length y1, .slice x2 t.kids.length y2] 25)) ((((w.alloc (.cells #[.int .i64 io, .bool bc, .slice e1 cn.length f1, .slice e2 cd.length f2, .int .i64 pp] 35)).alloc (.cells #[.slice x1 t.ns.length y1, .slice x2 t.kids.length y2] 25)).alloc (.cells #[.slice x3 s.ns.length y3, .slice x4 s.kids.length y4] 25)).alloc (.cells #[.slice none 0 0, .slice none 0 0] 25)) := k3.trans (k4.mono (by simp))
 have k24 : Below (w.alloc (.cells #[.int .i64 io, .bool bc, .slice e1 cn.length f1, .slice e2 cd.length f2, .int .i64 pp] 35)).heap.size (w.alloc (.cells #[.int .i64 io, .bool bc, .slice e1 cn.length f1, .slice e2 cd.length f2, .int .i64 pp] 35)) ((((w.alloc (.cells #[.int .i64 io, .bool bc, .slice e1 cn.length f1, .slice e2 cd.length f2, .int .i64 pp] 35)).alloc (.cells #[.slice x1 t.ns.length y1, .slice x2 t.kids.length y2] 25)).alloc (.cells #[.slice x3 s.ns.length y3, .slice x4 s.kids.length y4] 25)).alloc (.cells #[.slice none 0 0, .slice none 0 0] 25)) := k2.trans (k34.mono (by simp))
 have g : Below w.heap.size w ((((w.alloc (.cells #[.int .i64 io, .bool bc, .slice e1 cn.length f1, .slice e2 cd.length f2, .int .i64 pp] 35)).alloc (.cells #[.slice x1 t.ns.length y1, .slice x2 t.kids.length y2] 25)).alloc (.cells #[.slice x3 s.ns.length y3, .slice x4 s.kids.length y4] 25)).alloc (.cells #[.slice none 0 0, .slice none 0 0] 25)) := k1.trans (k24.mono (by simp))
 have E := (boxA_new w #[.int .i64 io, .bool bc, .slice e1 cn.length f1, .slice e2 cd.length f2, .int .i64 pp] 35).below k24 (by simp)
 have X := (boxA_new (w.alloc (.cells #[.int .i64 io, .bool bc, .slice e1 cn.length f1, .slice e2 cd.length f2, .int .i64 pp] 35)) #[.slice x1 t.ns.length y1, .slice x2 t.kids.length y2] 25).below k34 (by simp)
 have Y := (boxA_new ((w.alloc (.cells #[.int .i64 io, .bool bc, .slice e1 cn.length f1, .slice e2 cd.length f2, .int .i64 pp] 35)).alloc (.cells #[.slice x1 t.ns.length y1, .slice x2 t.kids.length y2] 25)) #[.slice x3 s.ns.length y3, .slice x4 s.kids.length y4] 25).below k4 (by simp)
 have R := boxA_new (((w.alloc (.cells #[.int .i64 io, .bool bc, .slice e1 cn.length f1, .slice e2 cd.length f2, .int .i64 pp] 35)).alloc (.cells #[.slice x1 t.ns.length y1, .slice x2 t.kids.length y2] 25)).alloc (.cells #[.slice x3 s.ns.length y3, .slice x4 s.kids.length y4] 25)) #[.slice none 0 0, .slice none 0 0] 25
 have sz2 : ((w.alloc (.cells #[.int .i64 io, .bool bc, .slice e1 cn.length f1, .slice e2 cd.length f2, .int .i64 pp] 35)).alloc (.cells #[.slice x1 t.ns.length y1, .slice x2 t.kids.length y2] 25)).heap.size = w.heap.size + 1 + 1 := by simp
 have sz3 : (((w.alloc (.cells #[.int .i64 io, .bool bc, .slice e1 cn.length f1, .slice e2 cd.length f2, .int .i64 pp] 35)).alloc (.cells #[.slice x1 t.ns.length y1, .slice x2 t.kids.length y2] 25)).alloc (.cells #[.slice x3 s.ns.length y3, .slice x4 s.kids.length y4] 25)).heap.size = w.heap.size + 1 + 1 + 1 := by simp
 have sz4 : ((((w.alloc (.cells #[.int .i64 io, .bool bc, .slice e1 cn.length f1, .slice e2 cd.length f2, .int .i64 pp] 35)).alloc (.cells #[.slice x1 t.ns.length y1, .slice x2 t.kids.length y2] 25)).alloc (.cells #[.slice x3 s.ns.length y3, .slice x4 s.kids.length y4] 25)).alloc (.cells #[.slice none 0 0, .slice none 0 0] 25)).heap.size = w.heap.size + 1 + 1 + 1 + 1 := by simp
 rw [World.size_alloc] at X
 rw [sz2] at Y
 rw [sz3] at R
 have HI : Hid (DyIn D (f + 1) w bc e1 e2 cn cd f1 f2 x1 x2 x3 x4 t.ns.length y1 t.kids.length y2 s.ns.length y3 s.kids.length y4 t s) := hI
 have HNE : Hid (¬ t.ns = s.ns) := hne
 clear k1 k2 k3 k4 k34 k24 hI hne
 have HwA : Hid (Wholes qa t.kids) := wA
 have HwB : Hid (Wholes qb s.kids) := wB
 have Hsz : Hid (sizeF t.ns = ((t.kids.length : Int), 0)) := hsz
 have HL : Hid (L.length = t.kids.length) := hL
 have HLi : Hid (∀ i, i < t.kids.length → L.getD i tr0 = wholeT (qa.getD (i % t.kids.length) 0 + qb.getD (i % s.kids.length) 0)) := hLi
 have HS0 : Hid (s.ns.length = 0) := hs0
 have HS1 : Hid (s.kids.length = 1) := hs1
 have HNA : Hid (¬ t.kids.length = 1) := hna
 have HA : Hid (0 < t.kids.length ∧ t.kids.length ≤ 4096) := ⟨hA, hA4⟩
 clear wA wB hsz hL hLi hs0 hs1 hna hA hA4
 have q0 := E.cell 0 rfl
 have q1 := E.cell 1 rfl
 have q2 := E.cell 2 rfl
 have q3 := E.cell 3 rfl
 have q4 := E.cell 4 rfl
 have a0 := X.cell 0 rfl
 have a1 := X.cell 1 rfl
 have b0 := Y.cell 0 rfl
 have b1 := Y.cell 1 rfl
 go_enter Tryz.func7, Tryz.ntmps7
 go_wp2_with fail
 generalize hA' : (((w.alloc (.cells #[.int .i64 io, .bool bc, .slice e1 cn.length f1, .slice e2 cd.length f2, .int .i64 pp] 35)).alloc (.cells #[.slice x1 t.ns.length y1, .slice x2 t.kids.length y2] 25)).alloc (.cells #[.slice x3 s.ns.length y3, .slice x4 s.kids.length y4] 25)).alloc (.cells #[.slice none 0 0, .slice none 0 0] 25) = v at *
 clear hA' q0 q1 q2 q3 q4 a0 a1 b0 b1
 refine (dyadOf_plus (HI.out.below g)).mono ?_
 rintro e w1 ⟨rfl, p1⟩
 have s1 := p1.size
 have X1 := X.below p1 (by omega)
 have Y1 := Y.below p1 (by omega)
 have R1 := R.below p1 (by omega)
 have g1 : Below w.heap.size w w1 := g.trans (p1.mono g.size)
 have HI1 := HI.out.below g1
 have HC1 := together_scalar (D := D) (w := w1) (x2 := x2) (y2 := y2) (x4 := x4) (y4 := y4) ⟨HI1.hD, HI1.va.1, HI1.vb.1, HNE.out⟩ HNA.out HS0.out HS1.out
 have a0 := X1.cell 0 rfl
 have a1 := X1.cell 1 rfl
 have b0 := Y1.cell 0 rfl
 have b1 := Y1.cell 1 rfl
 clear HI1
 go_wp2_with fail
 clear a0 a1 b0 b1
 refine HC1.mono ?_
 rintro e w2 ⟨rfl, p2⟩
 have s2 := p2.size
 have X2 := X1.below p2 (by omega)
 have Y2 := Y1.below p2 (by omega)
 have R2 := R1.below p2 (by omega)
 have g2 : Below w.heap.size w w2 := g1.trans (p2.mono g1.size)
 have a0 := X2.cell 0 rfl
 have a1 := X2.cell 1 rfl
 have b0 := Y2.cell 0 rfl
 have b1 := Y2.cell 1 rfl
 have p3 := below_alloc w2 (.cells #[.slice x1 t.ns.length y1, .slice x2 t.kids.length y2] 25)
 have p4 := below_alloc (w2.alloc (.cells #[.slice x1 t.ns.length y1, .slice x2 t.kids.length y2] 25)) (.cells #[.slice x3 s.ns.length y3, .slice x4 s.kids.length y4] 25)
 have p34 : Below w2.heap.size w2 ((w2.alloc (.cells #[.slice x1 t.ns.length y1, .slice x2 t.kids.length y2] 25)).alloc (.cells #[.slice x3 s.ns.length y3, .slice x4 s.kids.length y4] 25)) := p3.trans (p4.mono (by simp))
 have XA := (boxA_new w2 #[.slice x1 t.ns.length y1, .slice x2 t.kids.length y2] 25).below p4 (by simp)
 have YB := boxA_new (w2.alloc (.cells #[.slice x1 t.ns.length y1, .slice x2 t.kids.length y2] 25)) #[.slice x3 s.ns.length y3, .slice x4 s.kids.length y4] 25
 rw [World.size_alloc] at YB
 have sz6 : ((w2.alloc (.cells #[.slice x1 t.ns.length y1, .slice x2 t.kids.length y2] 25)).alloc (.cells #[.slice x3 s.ns.length y3, .slice x4 s.kids.length y4] 25)).heap.size = w2.heap.size + 1 + 1 := by simp
 have g4 : Below w.heap.size w ((w2.alloc (.cells #[.slice x1 t.ns.length y1, .slice x2 t.kids.length y2] 25)).alloc (.cells #[.slice x3 s.ns.length y3, .slice x4 s.kids.length y4] 25)) := g2.trans (p34.mono g2.size)
 have R4 := R2.below p34 (by omega)
 have HI4 := HI.out.below g4
 go_wp2_with fail
 clear a0 a1 b0 b1
 refine (pairsOf_any (w := w2)).mono ?_
 rintro e w5 ⟨rfl, hw5⟩
 rw [← hw5] at XA YB sz6 g4 R4 HI4
 have HI5 : Hid (DyIn D (f + 1) w5 bc e1 e2 cn cd f1 f2 x1 x2 x3 x4 t.ns.length y1 t.kids.length y2 s.ns.length y3 s.kids.length y4 t s) := HI4
 clear hw5 p3 p4 p34 HI4
 obtain ⟨gA, oA, eA, hgA, hcA⟩ := HI5.out.va.2.ptr HA.out.1
 obtain ⟨gB, oB, eB, hgB, hcB⟩ := HI5.out.vb.2.ptr (by have := HS1.out; omega)
 have HC5 := whole_plus (L := L) HI5.out.hD hgA hgB hcA hcB HwA.out HwB.out HA.out.1 (by have := HS1.out; omega) (by rw [← eA]; exact XA.cell 1 rfl) (by rw [← eB]; exact YB.cell 1 rfl) HI5.out.va.1 Hsz.out HA.out.1 HA.out.2 HL.out HLi.out
 clear hcA hcB
 have HC6 : Hid (Calls Tryz.prog 20 _ w5 _) := HC5
 clear HC5
 have s5 : w2.heap.size ≤ w5.heap.size := by omega
 have s5' : w5.heap.size ≤ w2.heap.size + 1 + 1 := by omega
 clear sz6
 go_wp2_with fail
 refine HC6.out.mono ?_
 rintro e w6 ⟨x5, y5, b3, d3, rfl, hv, p6⟩
 have s6 := p6.size
 have R6 := R4.below p6 (by omega)
 have HV : Hid (ArV 1 (Fr w5.heap.size w6.heap.size) w6 (.slice x5 t.ns.length y5) (.slice b3 t.kids.length d3) (arrT t.ns L)) := hv
 have g6 : Below w.heap.size w w6 := g4.trans (p6.mono g4.size)
 clear hv
 have r0 := R6.cell 0 rfl
 have r1 := R6.cell 1 rfl
 have f0 := R6.frozen 0
 have f1' := R6.frozen 1
 have Q := boxA_s1 (boxA_s0 R6 (.slice x5 t.ns.length y5)) (.slice b3 t.kids.length d3)
 have j0 := Q.cell 0 rfl
 have j1 := Q.cell 1 rfl
 go_wp2
 refine bodyPost_ret (v := .tuple #[.agg #[.slice x5 t.ns.length y5, .slice b3 t.kids.length d3], .int .i64 0]) (by simp [results, Tryz.results7, go_sem, j0, j1]) rfl ?_
 refine ⟨x5, y5, b3, d3, rfl, ArV.imp (fun q hq => ⟨by have := hq.1; omega, by rw [set1_size, set1_size]; exact hq.2⟩) (fun q hq => by rw [set1_other (by show ¬ w.heap.size + 1 + 1 + 1 = q; have := hq.1; omega), set1_other (by show ¬ w.heap.size + 1 + 1 + 1 = q; have := hq.1; omega)]) 1 1 _ _ _ (Nat.le_refl _) HV.out, Below.set2 g6 (by omega) _ _⟩
set_option maxRecDepth 100000 in
set_option maxHeartbeats 16000000 in
theorem dyadic_len (hI : DyIn D f w bc e1 e2 cn cd f1 f2 x1 x2 x3 x4 n1 y1 n2 y2 n3 y3 n4 y4 t s) (hne : ¬ t.ns = s.ns) (hna : ¬ t.kids.length = 1) (hnb : ¬ s.kids.length = 1) (hr : t.ns.length = s.ns.length) :
    Calls Tryz.prog 7 #[.agg #[.int .i64 io, .bool bc, .slice e1 cn.length f1, .slice e2 cd.length f2, .int .i64 pp], .int .i32 43, .agg #[.slice x1 n1 y1, .slice x2 n2 y2], .agg #[.slice x3 n3 y3, .slice x4 n4 y4]] w fun e w' => e = .returned (.tuple #[.agg #[.slice none 0 0, .slice none 0 0], .int .i64 5]) ∧ Below w.heap.size w w' := by
 obtain ⟨f, rfl⟩ : ∃ f', f = f' + 1 := by
  cases f with
  | zero => exact hI.va.elim
  | succ f => exact ⟨f, rfl⟩
 have en1 := hI.va.1.len
 have en2 := hI.va.2.len
 have en3 := hI.vb.1.len
 have en4 := hI.vb.2.len
 subst en1
 subst en2
 subst en3
 subst en4
 have k1 := below_alloc w (.cells #[.int .i64 io, .bool bc, .slice e1 cn.length f1, .slice e2 cd.length f2, .int .i64 pp] 35)
 have k2 := below_alloc (w.alloc (.cells #[.int .i64 io, .bool bc, .slice e1 cn.length f1, .slice e2 cd.length f2, .int .i64 pp] 35)) (.cells #[.slice x1 t.ns.length y1, .slice x2 t.kids.length y2] 25)
 have k3 := below_alloc ((w.alloc (.cells #[.int .i64 io, .bool bc, .slice e1 cn.length f1, .slice e2 cd.length f2, .int .i64 pp] 35)).alloc (.cells #[.slice x1 t.ns.length y1, .slice x2 t.kids.length y2] 25)) (.cells #[.slice x3 s.ns.length y3, .slice x4 s.kids.length y4] 25)
 have k4 := below_alloc (((w.alloc (.cells #[.int .i64 io, .bool bc, .slice e1 cn.length f1, .slice e2 cd.length f2, .int .i64 pp] 35)).alloc (.cells #[.slice x1 t.ns.length y1, .slice x2 t.kids.length y2] 25)).alloc (.cells #[.slice x3 s.ns.length y3, .slice x4 s.kids.length y4] 25)) (.cells #[.slice none 0 0, .slice none 0 0] 25)
 have k34 : Below ((w.alloc (.cells #[.int .i64 io, .bool bc, .slice e1 cn.length f1, .slice e2 cd.length f2, .int .i64 pp] 35)).alloc (.cells #[.slice x1 t.ns.length y1, .slice x2 t.kids.length y2] 25)).heap.size ((w.alloc (.cells #[.int .i64 io, .bool bc, .slice e1 cn.length f1, .slice e2 cd.length f2, .int .i64 pp] 35)).alloc (.cells #[.slice x1 t.ns.length y1, .slice x2 t.kids.length y2] 25)) ((((w.alloc (.cells #[.int .i64 io, .bool bc, .slice e1 cn.length f1, .slice e2 cd.length f2, .int .i64 pp] 35)).alloc (.cells #[.slice x1 t.ns.length y1, .slice x2 t.kids.length y2] 25)).alloc (.cells #[.slice x3 s.ns.length y3, .slice x4 s.kids.length y4] 25)).alloc (.cells #[.slice none 0 0, .slice none 0 0] 25)) := k3.trans (k4.mono (by simp))
 have k24 : Below (w.alloc (.cells #[.int .i64 io, .bool bc, .slice e1 cn.length f1, .slice e2 cd.length f2, .int .i64 pp] 35)).heap.size (w.alloc (.cells #[.int .i64 io, .bool bc, .slice e1 cn.length f1, .slice e2 cd.length f2, .int .i64 pp] 35)) ((((w.alloc (.cells #[.int .i64 io, .bool bc, .slice e1 cn.length f1, .slice e2 cd.length f2, .int .i64 pp] 35)).alloc (.cells #[.slice x1 t.ns.length y1, .slice x2 t.kids.length y2] 25)).alloc (.cells #[.slice x3 s.ns.length y3, .slice x4 s.kids.length y4] 25)).alloc (.cells #[.slice none 0 0, .slice none 0 0] 25)) := k2.trans (k34.mono (by simp))
 have g : Below w.heap.size w ((((w.alloc (.cells #[.int .i64 io, .bool bc, .slice e1 cn.length f1, .slice e2 cd.length f2, .int .i64 pp] 35)).alloc (.cells #[.slice x1 t.ns.length y1, .slice x2 t.kids.length y2] 25)).alloc (.cells #[.slice x3 s.ns.length y3, .slice x4 s.kids.length y4] 25)).alloc (.cells #[.slice none 0 0, .slice none 0 0] 25)) := k1.trans (k24.mono (by simp))
 have E := (boxA_new w #[.int .i64 io, .bool bc, .slice e1 cn.length f1, .slice e2 cd.length f2, .int .i64 pp] 35).below k24 (by simp)
 have X := (boxA_new (w.alloc (.cells #[.int .i64 io, .bool bc, .slice e1 cn.length f1, .slice e2 cd.length f2, .int .i64 pp] 35)) #[.slice x1 t.ns.length y1, .slice x2 t.kids.length y2] 25).below k34 (by simp)
 have Y := (boxA_new ((w.alloc (.cells #[.int .i64 io, .bool bc, .slice e1 cn.length f1, .slice e2 cd.length f2, .int .i64 pp] 35)).alloc (.cells #[.slice x1 t.ns.length y1, .slice x2 t.kids.length y2] 25)) #[.slice x3 s.ns.length y3, .slice x4 s.kids.length y4] 25).below k4 (by simp)
 have R := boxA_new (((w.alloc (.cells #[.int .i64 io, .bool bc, .slice e1 cn.length f1, .slice e2 cd.length f2, .int .i64 pp] 35)).alloc (.cells #[.slice x1 t.ns.length y1, .slice x2 t.kids.length y2] 25)).alloc (.cells #[.slice x3 s.ns.length y3, .slice x4 s.kids.length y4] 25)) #[.slice none 0 0, .slice none 0 0] 25
 have sz2 : ((w.alloc (.cells #[.int .i64 io, .bool bc, .slice e1 cn.length f1, .slice e2 cd.length f2, .int .i64 pp] 35)).alloc (.cells #[.slice x1 t.ns.length y1, .slice x2 t.kids.length y2] 25)).heap.size = w.heap.size + 1 + 1 := by simp
 have sz3 : (((w.alloc (.cells #[.int .i64 io, .bool bc, .slice e1 cn.length f1, .slice e2 cd.length f2, .int .i64 pp] 35)).alloc (.cells #[.slice x1 t.ns.length y1, .slice x2 t.kids.length y2] 25)).alloc (.cells #[.slice x3 s.ns.length y3, .slice x4 s.kids.length y4] 25)).heap.size = w.heap.size + 1 + 1 + 1 := by simp
 have sz4 : ((((w.alloc (.cells #[.int .i64 io, .bool bc, .slice e1 cn.length f1, .slice e2 cd.length f2, .int .i64 pp] 35)).alloc (.cells #[.slice x1 t.ns.length y1, .slice x2 t.kids.length y2] 25)).alloc (.cells #[.slice x3 s.ns.length y3, .slice x4 s.kids.length y4] 25)).alloc (.cells #[.slice none 0 0, .slice none 0 0] 25)).heap.size = w.heap.size + 1 + 1 + 1 + 1 := by simp
 rw [World.size_alloc] at X
 rw [sz2] at Y
 rw [sz3] at R
 have HI : Hid (DyIn D (f + 1) w bc e1 e2 cn cd f1 f2 x1 x2 x3 x4 t.ns.length y1 t.kids.length y2 s.ns.length y3 s.kids.length y4 t s) := hI
 have HNE : Hid (¬ t.ns = s.ns) := hne
 clear k1 k2 k3 k4 k34 k24 hI hne
 have HNA : Hid (¬ t.kids.length = 1) := hna
 have HNB : Hid (¬ s.kids.length = 1) := hnb
 have HR : Hid (t.ns.length = s.ns.length) := hr
 clear hna hnb hr
 have q0 := E.cell 0 rfl
 have q1 := E.cell 1 rfl
 have q2 := E.cell 2 rfl
 have q3 := E.cell 3 rfl
 have q4 := E.cell 4 rfl
 have a0 := X.cell 0 rfl
 have a1 := X.cell 1 rfl
 have b0 := Y.cell 0 rfl
 have b1 := Y.cell 1 rfl
 go_enter Tryz.func7, Tryz.ntmps7
 go_wp2_with fail
 generalize hA' : (((w.alloc (.cells #[.int .i64 io, .bool bc, .slice e1 cn.length f1, .slice e2 cd.length f2, .int .i64 pp] 35)).alloc (.cells #[.slice x1 t.ns.length y1, .slice x2 t.kids.length y2] 25)).alloc (.cells #[.slice x3 s.ns.length y3, .slice x4 s.kids.length y4] 25)).alloc (.cells #[.slice none 0 0, .slice none 0 0] 25) = v at *
 clear hA' q0 q1 q2 q3 q4 a0 a1 b0 b1
 refine (dyadOf_plus (HI.out.below g)).mono ?_
 rintro e w1 ⟨rfl, p1⟩
 have s1 := p1.size
 have X1 := X.below p1 (by omega)
 have Y1 := Y.below p1 (by omega)
 have R1 := R.below p1 (by omega)
 have g1 : Below w.heap.size w w1 := g.trans (p1.mono g.size)
 have HI1 := HI.out.below g1
 have HC1 := together_len (D := D) (w := w1) (x2 := x2) (y2 := y2) (x4 := x4) (y4 := y4) ⟨HI1.hD, HI1.va.1, HI1.vb.1, HNE.out⟩ HNA.out HNB.out (by rw [HR.out]; simp)
 have a0 := X1.cell 0 rfl
 have a1 := X1.cell 1 rfl
 have b0 := Y1.cell 0 rfl
 have b1 := Y1.cell 1 rfl
 clear HI1
 go_wp2_with fail
 clear a0 a1 b0 b1
 refine HC1.mono ?_
 rintro e w2 ⟨rfl, p2⟩
 have s2 := p2.size
 have X2 := X1.below p2 (by omega)
 have Y2 := Y1.below p2 (by omega)
 have R2 := R1.below p2 (by omega)
 have g2 : Below w.heap.size w w2 := g1.trans (p2.mono g1.size)
 have r0 := R2.cell 0 rfl
 have r1 := R2.cell 1 rfl
 have f0 := R2.frozen 0
 have f1' := R2.frozen 1
 have Q := boxA_s1 (boxA_s0 R2 (.slice none 0 0)) (.slice none 0 0)
 have j0 := Q.cell 0 rfl
 have j1 := Q.cell 1 rfl
 go_wp2
 refine bodyPost_ret (v := .tuple #[.agg #[.slice none 0 0, .slice none 0 0], .int .i64 5]) (by simp [results, Tryz.results7, go_sem, j0, j1]) rfl ?_
 exact ⟨rfl, Below.set2 g2 (by omega) _ _⟩
end
end Go.Proofs.YtmijanocljmaeaaGreat

/- An environment without tolerance. -/
namespace Go.Proofs.YtmijanocljmaeaaGreat
set_option linter.unusedVariables false
set_option linter.unusedSimpArgs false
open Go.RowKit

set_option maxRecDepth 100000 in
set_option maxHeartbeats 16000000 in
theorem refZero_any (w : World) : Calls Tryz.prog 22 #[] w fun e w' => ∃ ds a c, Hid (ds = [(1 : Int)]) ∧ e = .returned (.agg #[.bool false, .slice none 0 0, .slice a ds.length c]) ∧ Own w.heap.size w' (.slice a ds.length c) ds ∧ Below w.heap.size w w' := by
 have R := boxA_new w #[.bool false, .slice none 0 0, .slice none 0 0] 33
 have g := below_alloc w (.cells #[.bool false, .slice none 0 0, .slice none 0 0] 33)
 have lR := R.lt
 go_enter Tryz.func22, Tryz.ntmps22
 go_wp2_with fail
 generalize hA : w.alloc (.cells #[.bool false, .slice none 0 0, .slice none 0 0] 33) = v at *
 clear hA
 refine (refOne_any v).mono ?_
 rintro e w1 ⟨ds, a, c, hd, rfl, ho, k1⟩
 have R1 := R.below k1 lR
 have r0 := R1.cell 0 rfl
 have r1 := R1.cell 1 rfl
 have r2 := R1.cell 2 rfl
 have f0 := R1.frozen 0
 have f1 := R1.frozen 1
 have f2 := R1.frozen 2
 have R3 := ((R1.put 0 (.bool false)).put 1 (.slice none 0 0)).put 2 (.slice a ds.length c)
 have q0 := R3.cell 0 rfl
 have q1 := R3.cell 1 rfl
 have q2 := R3.cell 2 rfl
 have HO : Hid (Own v.heap.size w1 (.slice a ds.length c) ds) := ho
 clear ho
 go_wp2
 refine bodyPost_ret (v := .agg #[.bool false, .slice none 0 0, .slice a ds.length c]) (by simp [results, Tryz.results22, go_sem, q0, q1, q2]) rfl ?_
 have hO := HO.out
 exact ⟨ds, a, c, hd, rfl, (((hO.setCell (a := ⟨w.heap.size, 0, none⟩) (fun e => by have := (hO.2.lt _ e).1; simp at this; omega) _).setCell (a := ⟨w.heap.size, 1, none⟩) (fun e => by have := (hO.2.lt _ e).1; simp at this; omega) _).setCell (a := ⟨w.heap.size, 2, none⟩) (fun e => by have := (hO.2.lt _ e).1; simp at this; omega) _).mono (by omega), Below.set3 (g.trans (k1.mono g.size)) (Nat.le_refl _) _ _ _⟩
set_option maxRecDepth 100000 in
set_option maxHeartbeats 16000000 in
theorem env_any (w : World) : Calls Tryz.prog 8 #[] w fun e w' => ∃ ds a c, Hid (ds = [(1 : Int)]) ∧ e = .returned (.agg #[.int .i64 1, .bool false, .slice none 0 0, .slice a ds.length c, .int .i64 0]) ∧ Own w.heap.size w' (.slice a ds.length c) ds ∧ Below w.heap.size w w' := by
 have R := boxA_new w #[.int .i64 0, .bool false, .slice none 0 0, .slice none 0 0, .int .i64 0] 35
 have g := below_alloc w (.cells #[.int .i64 0, .bool false, .slice none 0 0, .slice none 0 0, .int .i64 0] 35)
 have lR := R.lt
 go_enter Tryz.func8, Tryz.ntmps8
 go_wp2_with fail
 generalize hA : w.alloc (.cells #[.int .i64 0, .bool false, .slice none 0 0, .slice none 0 0, .int .i64 0] 35) = v at *
 clear hA
 refine (refZero_any v).mono ?_
 rintro e w1 ⟨ds, a, c, hd, rfl, ho, k1⟩
 have R1 := R.below k1 lR
 have r0 := R1.cell 0 rfl
 have r1 := R1.cell 1 rfl
 have r2 := R1.cell 2 rfl
 have r3 := R1.cell 3 rfl
 have r4 := R1.cell 4 rfl
 have f0 := R1.frozen 0
 have f1 := R1.frozen 1
 have f2 := R1.frozen 2
 have f3 := R1.frozen 3
 have f4 := R1.frozen 4
 have R3 := ((((R1.put 0 (.int .i64 1)).put 1 (.bool false)).put 2 (.slice none 0 0)).put 3 (.slice a ds.length c)).put 4 (.int .i64 0)
 have q0 := R3.cell 0 rfl
 have q1 := R3.cell 1 rfl
 have q2 := R3.cell 2 rfl
 have q3 := R3.cell 3 rfl
 have q4 := R3.cell 4 rfl
 have hb : (Instr.build 35 #[(0, .int .i64 1), (1, .agg #[.bool false, .slice none 0 0, .slice a ds.length c])]).run Tryz.prog w1 = .ok (.agg #[.int .i64 1, .bool false, .slice none 0 0, .slice a ds.length c, .int .i64 0]) w1 := by kernel_rfl
 have HO : Hid (Own v.heap.size w1 (.slice a ds.length c) ds) := ho
 clear ho
 go_wp2
 refine bodyPost_ret (v := .agg #[.int .i64 1, .bool false, .slice none 0 0, .slice a ds.length c, .int .i64 0]) (by simp [results, Tryz.results8, go_sem, q0, q1, q2, q3, q4]) rfl ?_
 have hO := HO.out
 exact ⟨ds, a, c, hd, rfl, (((((hO.setCell (a := ⟨w.heap.size, 0, none⟩) (fun e => by have := (hO.2.lt _ e).1; simp at this; omega) _).setCell (a := ⟨w.heap.size, 1, none⟩) (fun e => by have := (hO.2.lt _ e).1; simp at this; omega) _).setCell (a := ⟨w.heap.size, 2, none⟩) (fun e => by have := (hO.2.lt _ e).1; simp at this; omega) _).setCell (a := ⟨w.heap.size, 3, none⟩) (fun e => by have := (hO.2.lt _ e).1; simp at this; omega) _).setCell (a := ⟨w.heap.size, 4, none⟩) (fun e => by have := (hO.2.lt _ e).1; simp at this; omega) _).mono (by omega), (((((g.trans (k1.mono g.size)).setCell (p := ⟨w.heap.size, 0, none⟩) (Nat.le_refl _) _).setCell (p := ⟨w.heap.size, 1, none⟩) (Nat.le_refl _) _).setCell (p := ⟨w.heap.size, 2, none⟩) (Nat.le_refl _) _).setCell (p := ⟨w.heap.size, 3, none⟩) (Nat.le_refl _) _).setCell (p := ⟨w.heap.size, 4, none⟩) (Nat.le_refl _) _⟩
end Go.Proofs.YtmijanocljmaeaaGreat

/- law05.live. -/
namespace Go.Proofs.YtmijanocljmaeaaGreat
set_option linter.unusedVariables false
set_option linter.unusedSimpArgs false
open Go.RowKit

theorem rdN_twoS {W : World} {D : Nat → Prop} {g : Nat} {l : List Int} {cs : Array Value} (h : BoxA W g 3 cs) (hl : cs.toList = l.map (Value.int .i64)) (hD : D g) (hin : ∀ x ∈ l, -1000 ≤ x ∧ x ≤ 1000) (hs : l.length ≤ 1000) : RdN D W (.slice (some ⟨g, 0, none⟩) l.length l.length) l := by
 refine ⟨fun x hx => by have := hin x hx; omega, _, l.length, rfl, Nat.le_refl _, by omega, (fun h => by cases h), Or.inr ⟨g, 0, rfl, hD, fun j hj => ?_⟩⟩
 rw [Nat.zero_add]
 refine h.cell j ?_
 rw [← Array.getElem?_toList, hl, getD_map_i64 l j hj]
/-- array.Ints of a list that is written out. -/
theorem ints_lit {W : World} {g : Nat} {l : List Int} {cs : Array Value} (h : BoxA W g 3 cs) (hl : cs.toList = l.map (Value.int .i64)) (hin : ∀ x ∈ l, -1000 ≤ x ∧ x ≤ 1000) (hs : l.length ≤ 1000) : Calls Tryz.prog 17 #[.slice (some ⟨g, 0, none⟩) l.length l.length] W fun e w' => ∃ z1 m1 u1 z2 m2 u2, e = .returned (.agg #[.slice z1 m1 u1, .slice z2 m2 u2]) ∧ ArV 1 (Fr W.heap.size w'.heap.size) w' (.slice z1 m1 u1) (.slice z2 m2 u2) (vecT (wholeT 0) (l.map wholeT)) ∧ Below W.heap.size W w' :=
 ints_any (rdN_twoS (D := fun q => q = g) h hl rfl hin hs) (fun q hq => by subst hq; exact h.lt)
theorem int_lit (q : Int) (h0 : -1000000 ≤ q) (h1 : q ≤ 1000000) (w : World) : Calls Tryz.prog 12 #[.int .i64 q] w fun e w' => ∃ k, e = .returned (.agg #[.slice none 0 0, .slice (some ⟨k, 0, none⟩) 1 1]) ∧ ArV 1 (Fr w.heap.size w'.heap.size) w' (.slice none 0 0) (.slice (some ⟨k, 0, none⟩) 1 1) (arrT [] [wholeT q]) ∧ Below w.heap.size w w' := by
 refine (arrInt_any w q (by omega) (by omega)).mono ?_
 rintro e w' ⟨b, ns, ds, hw, k, rfl, hn, hb⟩
 have := numAt_arv hn
 rw [wholeIs_eq (by omega) (by omega) hw.out] at this
 exact ⟨k, rfl, this, hb⟩
theorem meas_row {l : List Int} (hin : ∀ x ∈ l, -1000 ≤ x ∧ x ≤ 1000) : (measF 16 (vecT (wholeT 0) (l.map wholeT))).isSome = true := by
 rw [vec_meas (L := 15) (whole_meas _ (by omega) (by omega)) (fun t ht => by
  obtain ⟨q, hq, rfl⟩ := List.mem_map.1 ht
  have := hin q hq
  exact whole_meas _ (by omega) (by omega))]; rfl
theorem meas_one (q : Int) (h0 : -1000 ≤ q) (h1 : q ≤ 1000) : (measF 16 (arrT [] [wholeT q])).isSome = true := by
 rw [meas_scalar (L := 15) (Or.inl rfl) (whole_meas _ (by omega) (by omega))]; rfl
def LiveOK5 : Prop := ∀ w : World, Calls Tryz.prog 9 #[] w fun e w' => e = .returned (.bool true) ∧ Below w.heap.size w w'
end Go.Proofs.YtmijanocljmaeaaGreat
