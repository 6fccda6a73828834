/- glyphlaw11.first, do: a deed on both tables. -/
import Derived.Test.YtimfnalpmmkndaaGreatDoorRV
import Derived.Test.YtimfnalpmmkndaaGreatDoorRX
import Derived.Test.YtimfnalpmmkndaaGreatDoorRY
import Derived.Test.YtimfnalpmmkndaaGreatDoorNI
set_option maxRecDepth 100000
set_option maxHeartbeats 8000000
set_option linter.unusedVariables false
set_option linter.unusedSimpArgs false
namespace Go.Proofs.YtimfnalpmmkndaaGreatDoor
variable {ne : ByteArray → Int}
section
open Go.RowKit
attribute [local go_sem] Oper.semAt_some
def firstT (ss : List ByteArray) : ByteArray := ss.getD 0 ⟨#[]⟩
theorem first_size {ss : List ByteArray} (h : ∀ x ∈ ss, x.size ≤ 9223372036854775807) : (firstT ss).size ≤ 9223372036854775807 := by
 cases ss with
 | nil => exact Nat.zero_le _
 | cons x l => exact h x (List.mem_cons_self ..)
theorem first_any {B : Nat} {w : World} {a : Option Addr} {c : Nat} {ss : List ByteArray} (h : RdS B w (.slice a ss.length c) ss) : Calls Tryz.prog 33 #[.slice a ss.length c] w fun e w' => e = .returned (.string (firstT ss)) ∧ w = w' := by
 by_cases h0 : 0 < ss.length
 · obtain ⟨g, o, rfl, _, hc⟩ := h.ptr h0
   have q := hc 0 h0
   have hx : ss.getD 0 noT = firstT ss := by
    unfold firstT
    cases ss with
    | nil => simp at h0
    | cons x l => rfl
   rw [hx, Nat.add_zero] at q
   have b0 : ((ss.length : Int) == 0) = false := by rw [beq_eq_false_iff_ne]; omega
   have i0 : (0 : Int) < (ss.length : Int) := by omega
   clear hc h hx
   generalize firstT ss = s at *
   go_enter Tryz.func33, Tryz.ntmps33
   go_wp2
   go_ret
   exact ⟨rfl, rfl⟩
 · obtain rfl : ss = [] := List.eq_nil_of_length_eq_zero (by omega)
   clear h
   go_enter Tryz.func33, Tryz.ntmps33
   go_wp2
   go_ret
   exact ⟨rfl, rfl⟩
theorem cells14 {w : World} {R ty : Nat} {u0 u1 u2 u3 u4 u5 u6 u7 u8 u9 u10 u11 u12 u13 : Value} (h : BoxA w R ty #[u0, u1, u2, u3, u4, u5, u6, u7, u8, u9, u10, u11, u12, u13]) : w.cell? ⟨R, 0, none⟩ = some u0 ∧ w.cell? ⟨R, 1, none⟩ = some u1 ∧ w.cell? ⟨R, 2, none⟩ = some u2 ∧ w.cell? ⟨R, 3, none⟩ = some u3 ∧ w.cell? ⟨R, 4, none⟩ = some u4 ∧ w.cell? ⟨R, 5, none⟩ = some u5 ∧ w.cell? ⟨R, 6, none⟩ = some u6 ∧ w.cell? ⟨R, 7, none⟩ = some u7 ∧ w.cell? ⟨R, 8, none⟩ = some u8 ∧ w.cell? ⟨R, 9, none⟩ = some u9 ∧ w.cell? ⟨R, 10, none⟩ = some u10 ∧ w.cell? ⟨R, 11, none⟩ = some u11 ∧ w.cell? ⟨R, 12, none⟩ = some u12 ∧ w.cell? ⟨R, 13, none⟩ = some u13 := ⟨h.cell 0 rfl, h.cell 1 rfl, h.cell 2 rfl, h.cell 3 rfl, h.cell 4 rfl, h.cell 5 rfl, h.cell 6 rfl, h.cell 7 rfl, h.cell 8 rfl, h.cell 9 rfl, h.cell 10 rfl, h.cell 11 rfl, h.cell 12 rfl, h.cell 13 rfl⟩
def DoneP (f tb rb : Nat) (w : World) (e : Ending) (w' : World) : Prop := ∃ (r : Bool) (T' : List FrB) (M' D' : Nat → Prop), e = .returned (.bool r) ∧ Both f M' D' w' tb rb T' ∧ Below tb w w'
section
variable {f : Nat} {M D Da : Nat → Prop} {w : World} {tb rb : Nat} {T : List FrB}
theorem do_case0 (hne : TellsErr ne) {v0 : DV} {d : Dd} (h : Both f M D w tb rb T) (hd : DdIs f Da w v0 d) (hDa : ∀ g, Da g → g < tb) (hU : Lib.Utf8Tabs 0 1 w) (hU2 : ∀ V, Below tb w V → Lib.Utf8Tabs 0 1 V) (hk : d.b.k = 0) :
    Calls Tryz.prog 13 #[.pointer (some ⟨tb, 0, none⟩), .pointer (some ⟨rb, 0, none⟩), .agg v0.cells] w (DoneP f tb rb w) := by
 obtain ⟨⟨na, nc, x1, y1, x2, y2, b1, z1, b2, z2, b3, z3, b4, z4, rfl, r1, r2, r3⟩, _⟩ := id hd
 have HDD : Hid (DdIs f Da w _ d) := hd
 have kk0 : (d.b.k == 0) = true := by simp [hk]
 change Calls Tryz.prog 13 #[.pointer (some ⟨tb, 0, none⟩), .pointer (some ⟨rb, 0, none⟩), .agg #[.int .i64 d.b.k, .slice na d.ss.length nc, .slice x1 d.b.t.ns.length y1, .slice x2 d.b.t.kids.length y2, .string d.b.s1, .string d.b.s2, .string d.b.s3, .string d.b.s4, .slice b1 d.b.l1.length z1, .slice b2 d.b.l2.length z2, .slice b3 d.b.l3.length z3, .slice b4 d.b.l4.length z4, .bool d.b.br, .int .i64 d.b.ln]] w (DoneP f tb rb w)
 clear hk
 have e1 := below_alloc w (.cells #[.int .i64 d.b.k, .slice na d.ss.length nc, .slice x1 d.b.t.ns.length y1, .slice x2 d.b.t.kids.length y2, .string d.b.s1, .string d.b.s2, .string d.b.s3, .string d.b.s4, .slice b1 d.b.l1.length z1, .slice b2 d.b.l2.length z2, .slice b3 d.b.l3.length z3, .slice b4 d.b.l4.length z4, .bool d.b.br, .int .i64 d.b.ln] 38)
 have B1 := boxA_new w #[.int .i64 d.b.k, .slice na d.ss.length nc, .slice x1 d.b.t.ns.length y1, .slice x2 d.b.t.kids.length y2, .string d.b.s1, .string d.b.s2, .string d.b.s3, .string d.b.s4, .slice b1 d.b.l1.length z1, .slice b2 d.b.l2.length z2, .slice b3 d.b.l3.length z3, .slice b4 d.b.l4.length z4, .bool d.b.br, .int .i64 d.b.ln] 38
 have HB : Hid (Both f M D w tb rb T) := h
 have ltb := h.tab.lowR.1
 have HDV : Hid (∀ V, Below tb w V → RdT Da V (.slice na d.ss.length nc) d.ss ∧ ArV (f + 1) Da V (.slice x1 d.b.t.ns.length y1) (.slice x2 d.b.t.kids.length y2) d.b.t ∧ Lists4 Da V b1 b2 b3 b4 z1 z2 z3 z4 d.b.l1 d.b.l2 d.b.l3 d.b.l4) := fun V hV => by
  have ag : Agree Da w V := fun g hg => hV.block g (hDa g hg)
  exact ⟨r1.imp (fun _ h => h) ag, r2.agree ag, r3.imp (fun _ h => h) ag⟩
 have HDA : Hid (∀ V, Below tb w V → ∀ g, Da g → g < V.heap.size) := fun V hV g hg => by have := hDa g hg; have := hV.size; omega
 have HDM : Hid (∀ V, Below tb w V → ∀ g, Da g → DM M V g) := fun V hV g hg => ⟨by have := hDa g hg; have := hV.size; omega, fun e => by have := (h.tab.lowR.2 g e).1; have := hDa g hg; omega⟩
 have HDR : Hid (∀ g, Da g → g ≠ rb) := fun g hg e => by have := hDa g hg; have := h.lrb; omega
 have HU : Hid (∀ V, Below tb w V → Lib.Utf8Tabs 0 1 V) := hU2
 have HCN : Hid (cntF T ≤ 1000000) := by have := h.tok.cnt; unfold Hid; omega
 have hsz := first_size hd.txt
 have HNX : Hid (¬ M w.heap.size) := fun e => by have := (h.tab.lowR.2 _ e).2; omega
 have HXR : Hid (w.heap.size ≠ rb) := by have := h.ref.one.2; unfold Hid; omega
 have hB0 := h.below e1
 have hf := (r1.rd (B := tb) hDa).below e1 (Nat.le_of_lt ltb)
 have c0 := B1.cell 0 rfl
 have c1 := B1.cell 1 rfl
 clear h hd hDa r1 r2 r3 hU hU2
 go_enter Tryz.func13, Tryz.ntmps13
 go_wp2_with fail
 obtain ⟨u, hu⟩ : ∃ u, w.alloc (.cells #[.int .i64 d.b.k, .slice na d.ss.length nc, .slice x1 d.b.t.ns.length y1, .slice x2 d.b.t.kids.length y2, .string d.b.s1, .string d.b.s2, .string d.b.s3, .string d.b.s4, .slice b1 d.b.l1.length z1, .slice b2 d.b.l2.length z2, .slice b3 d.b.l3.length z3, .slice b4 d.b.l4.length z4, .bool d.b.br, .int .i64 d.b.ln] 38) = u := ⟨_, rfl⟩
 rw [hu] at e1 B1 hB0 hf c0 c1 ⊢
 clear hu
 refine (first_any hf).mono ?_
 rintro e w0 ⟨rfl, rfl⟩
 obtain ⟨s, hs⟩ : ∃ s, firstT d.ss = s := ⟨_, rfl⟩
 rw [hs] at hsz ⊢
 clear hs hf
 go_upto_region 4 with fail
 obtain ⟨v, hv⟩ : ∃ v, u.drew = v := ⟨_, rfl⟩
 have kv : Below tb w v := by rw [← hv]; exact (e1.mono (Nat.le_of_lt ltb)).drew
 have HBv : Hid (Both f M D v tb rb T) := by rw [← hv]; exact hB0.below (Below.refl _ _).drew
 have BX : BoxA v w.heap.size 38 #[.int .i64 d.b.k, .slice na d.ss.length nc, .slice x1 d.b.t.ns.length y1, .slice x2 d.b.t.kids.length y2, .string d.b.s1, .string d.b.s2, .string d.b.s3, .string d.b.s4, .slice b1 d.b.l1.length z1, .slice b2 d.b.l2.length z2, .slice b3 d.b.l3.length z3, .slice b4 d.b.l4.length z4, .bool d.b.br, .int .i64 d.b.ln] := by rw [← hv]; exact B1
 clear c0 c1 hB0 B1 e1
 refine wp_region_noPanic ?_
 refine wp_region_held_drew (S := (fun V => V.cell? ⟨w.heap.size, 0, none⟩ = some (.int .i64 d.b.k) ∧ V.cell? ⟨w.heap.size, 1, none⟩ = some (.slice na d.ss.length nc) ∧ V.cell? ⟨w.heap.size, 2, none⟩ = some (.slice x1 d.b.t.ns.length y1) ∧ V.cell? ⟨w.heap.size, 3, none⟩ = some (.slice x2 d.b.t.kids.length y2) ∧ V.cell? ⟨w.heap.size, 4, none⟩ = some (.string d.b.s1) ∧ V.cell? ⟨w.heap.size, 5, none⟩ = some (.string d.b.s2) ∧ V.cell? ⟨w.heap.size, 6, none⟩ = some (.string d.b.s3) ∧ V.cell? ⟨w.heap.size, 7, none⟩ = some (.string d.b.s4) ∧ V.cell? ⟨w.heap.size, 8, none⟩ = some (.slice b1 d.b.l1.length z1) ∧ V.cell? ⟨w.heap.size, 9, none⟩ = some (.slice b2 d.b.l2.length z2) ∧ V.cell? ⟨w.heap.size, 10, none⟩ = some (.slice b3 d.b.l3.length z3) ∧ V.cell? ⟨w.heap.size, 11, none⟩ = some (.slice b4 d.b.l4.length z4) ∧ V.cell? ⟨w.heap.size, 12, none⟩ = some (.bool d.b.br) ∧ V.cell? ⟨w.heap.size, 13, none⟩ = some (.int .i64 d.b.ln))) (by kernel_rfl) (by rw [hv]; exact cells14 BX) (fun hS => ?_)
 rw [hv] at hS ⊢
 clear hv
 refine tk (i := 0) (v := .pointer (some ⟨tb, 0, none⟩)) ?_
 simp only [Act.put, zA, z0Z, z1Z]
 refine tk (i := 1) (v := .string s) ?_
 simp only [Act.put, zA, z0Z, z1Z]
 refine tk (i := 2) (v := .pointer (some ⟨w.heap.size, 2, none⟩)) ?_
 simp only [Act.put, zA, z0Z, z1Z]
 refine tk (i := 3) (v := .agg #[.slice x1 d.b.t.ns.length y1, .slice x2 d.b.t.kids.length y2]) ?_
 simp only [Act.put, zA, z0Z, z1Z]
 refine tk (i := 5) (v := .pointer (some ⟨rb, 0, none⟩)) ?_
 simp only [Act.put, zA, z0Z, z1Z]
 refine tk (i := 6) (v := .string s) ?_
 simp only [Act.put, zA, z0Z, z1Z]
 refine tk (i := 7) (v := .pointer (some ⟨w.heap.size, 2, none⟩)) ?_
 simp only [Act.put, zA, z0Z, z1Z]
 refine tk (i := 8) (v := .agg #[.slice x1 d.b.t.ns.length y1, .slice x2 d.b.t.kids.length y2]) ?_
 simp only [Act.put, zA, z0Z, z1Z]
 refine wpAnyH_ready (rs := [4]) (by kernel_rfl) (by simp) ?_
 refine AllReadyH.cons rfl (fun K hK => ?_) AllReadyH.nil
 go_simp
 refine (setVar_any s hsz HBv.out.tab HCN.out (HDM.out v kv) (HDV.out v kv).2.1).mono ?_
 rintro e w1 hR
 obtain ⟨M1, hB1, kb1⟩ := HBv.out.ans (HBv.out.tok.setVar s d.b.t) hR
 have BX1 : BoxA w1 w.heap.size 38 #[.int .i64 d.b.k, .slice na d.ss.length nc, .slice x1 d.b.t.ns.length y1, .slice x2 d.b.t.kids.length y2, .string d.b.s1, .string d.b.s2, .string d.b.s3, .string d.b.s4, .slice b1 d.b.l1.length z1, .slice b2 d.b.l2.length z2, .slice b3 d.b.l3.length z3, .slice b4 d.b.l4.length z4, .bool d.b.br, .int .i64 d.b.ln] := by
  obtain ⟨_, _, _, hk, _⟩ := hR
  exact BX.of_blk (hk.block _ BX.lt HNX.out)
 obtain ⟨rfl, _⟩ := hR
 have K1 : Below tb w w1 := kv.trans kb1
 obtain ⟨E1, hE1⟩ : ∃ E1, setVarE T s d.b.t = E1 := ⟨_, rfl⟩
 rw [hE1]
 clear hE1
 go_simp
 refine hK.out _ _ (cells14 BX1) (fun _ => ?_)
 clear hK K
 refine wpAnyH_ready (rs := [9]) (by kernel_rfl) (by simp) ?_
 refine AllReadyH.cons rfl (fun K hK => ?_) AllReadyH.nil
 go_simp
 refine (refSetVar_any hne s hsz (HU.out w1 K1) hB1.ref (fun g hg => ⟨(hB1.dlt g hg).1, (hB1.dlt g hg).2.1⟩) (HDV.out w1 K1).2.1 (HDA.out w1 K1) HDD.out.small).mono ?_
 rintro e w2 hR2
 obtain ⟨hB2, kb2⟩ := hB1.right hR2
 obtain ⟨n2, rfl, _, kp2⟩ := hR2
 have BX2 : BoxA w2 w.heap.size 38 #[.int .i64 d.b.k, .slice na d.ss.length nc, .slice x1 d.b.t.ns.length y1, .slice x2 d.b.t.kids.length y2, .string d.b.s1, .string d.b.s2, .string d.b.s3, .string d.b.s4, .slice b1 d.b.l1.length z1, .slice b2 d.b.l2.length z2, .slice b3 d.b.l3.length z3, .slice b4 d.b.l4.length z4, .bool d.b.br, .int .i64 d.b.ln] := BX1.of_blk (kp2.block _ BX1.lt HXR.out)
 have HFIN : Hid (DoneP f tb rb w (.returned (.bool (E1 == n2))) w2) := ⟨_, _, _, _, rfl, hB2, K1.trans kb2⟩
 go_simp
 refine hK.out _ _ (cells14 BX2) (fun _ => ?_)
 clear hK K
 refine tk (i := 10) (oi := { dst := some 25, op := Op.binOp BinOp.eql 39 (Operand.tmp 19) (Operand.tmp 24) 39, type := 4, pos := "law.go:63", after := #[{ on := 4, ground := Ground.data }, { on := 9, ground := Ground.data }], guard := none }) (v := .bool (E1 == n2)) ?_
 simp only [Act.put, zA, z0Z, z1Z]
 refine tk (i := 11) (oi := { dst := some 6, op := Op.assign (Operand.tmp 25), type := 4, pos := "law.go:63", after := #[{ on := 10, ground := Ground.data }, { on := 9, ground := Ground.chain }, { on := 0, ground := Ground.phase }, { on := 1, ground := Ground.phase }, { on := 2, ground := Ground.phase }, { on := 3, ground := Ground.phase }, { on := 4, ground := Ground.phase }, { on := 5, ground := Ground.phase }, { on := 6, ground := Ground.phase }, { on := 7, ground := Ground.phase }, { on := 8, ground := Ground.phase }, { on := 9, ground := Ground.phase }, { on := 10, ground := Ground.phase }], guard := none }) (v := .bool (E1 == n2)) ?_
 simp only [Act.put, zA, z0Z, z1Z]
 refine wpAnyH_done (by kernel_rfl) ?_ _
 dsimp only [NoPanic]
 go_wp2
 go_ret
 exact HFIN.out
theorem do_case1 (hne : TellsErr ne) {v0 : DV} {d : Dd} (h : Both f M D w tb rb T) (hd : DdIs f Da w v0 d) (hDa : ∀ g, Da g → g < tb) (hU : Lib.Utf8Tabs 0 1 w) (hU2 : ∀ V, Below tb w V → Lib.Utf8Tabs 0 1 V) (hk : d.b.k = 1) :
    Calls Tryz.prog 13 #[.pointer (some ⟨tb, 0, none⟩), .pointer (some ⟨rb, 0, none⟩), .agg v0.cells] w (DoneP f tb rb w) := by
 obtain ⟨⟨na, nc, x1, y1, x2, y2, b1, z1, b2, z2, b3, z3, b4, z4, rfl, r1, r2, r3⟩, _⟩ := id hd
 have HDD : Hid (DdIs f Da w _ d) := hd
 have kk0 : (d.b.k == 0) = false := by simp [hk]
 have kk1 : (d.b.k == 1) = true := by simp [hk]
 change Calls Tryz.prog 13 #[.pointer (some ⟨tb, 0, none⟩), .pointer (some ⟨rb, 0, none⟩), .agg #[.int .i64 d.b.k, .slice na d.ss.length nc, .slice x1 d.b.t.ns.length y1, .slice x2 d.b.t.kids.length y2, .string d.b.s1, .string d.b.s2, .string d.b.s3, .string d.b.s4, .slice b1 d.b.l1.length z1, .slice b2 d.b.l2.length z2, .slice b3 d.b.l3.length z3, .slice b4 d.b.l4.length z4, .bool d.b.br, .int .i64 d.b.ln]] w (DoneP f tb rb w)
 clear hk
 have e1 := below_alloc w (.cells #[.int .i64 d.b.k, .slice na d.ss.length nc, .slice x1 d.b.t.ns.length y1, .slice x2 d.b.t.kids.length y2, .string d.b.s1, .string d.b.s2, .string d.b.s3, .string d.b.s4, .slice b1 d.b.l1.length z1, .slice b2 d.b.l2.length z2, .slice b3 d.b.l3.length z3, .slice b4 d.b.l4.length z4, .bool d.b.br, .int .i64 d.b.ln] 38)
 have B1 := boxA_new w #[.int .i64 d.b.k, .slice na d.ss.length nc, .slice x1 d.b.t.ns.length y1, .slice x2 d.b.t.kids.length y2, .string d.b.s1, .string d.b.s2, .string d.b.s3, .string d.b.s4, .slice b1 d.b.l1.length z1, .slice b2 d.b.l2.length z2, .slice b3 d.b.l3.length z3, .slice b4 d.b.l4.length z4, .bool d.b.br, .int .i64 d.b.ln] 38
 have HB : Hid (Both f M D w tb rb T) := h
 have ltb := h.tab.lowR.1
 have HDV : Hid (∀ V, Below tb w V → RdT Da V (.slice na d.ss.length nc) d.ss ∧ ArV (f + 1) Da V (.slice x1 d.b.t.ns.length y1) (.slice x2 d.b.t.kids.length y2) d.b.t ∧ Lists4 Da V b1 b2 b3 b4 z1 z2 z3 z4 d.b.l1 d.b.l2 d.b.l3 d.b.l4) := fun V hV => by
  have ag : Agree Da w V := fun g hg => hV.block g (hDa g hg)
  exact ⟨r1.imp (fun _ h => h) ag, r2.agree ag, r3.imp (fun _ h => h) ag⟩
 have HDA : Hid (∀ V, Below tb w V → ∀ g, Da g → g < V.heap.size) := fun V hV g hg => by have := hDa g hg; have := hV.size; omega
 have HDM : Hid (∀ V, Below tb w V → ∀ g, Da g → DM M V g) := fun V hV g hg => ⟨by have := hDa g hg; have := hV.size; omega, fun e => by have := (h.tab.lowR.2 g e).1; have := hDa g hg; omega⟩
 have HDR : Hid (∀ g, Da g → g ≠ rb) := fun g hg e => by have := hDa g hg; have := h.lrb; omega
 have HU : Hid (∀ V, Below tb w V → Lib.Utf8Tabs 0 1 V) := hU2
 have HCN : Hid (cntF T ≤ 1000000) := by have := h.tok.cnt; unfold Hid; omega
 have hsz := first_size hd.txt
 have HNX : Hid (¬ M w.heap.size) := fun e => by have := (h.tab.lowR.2 _ e).2; omega
 have HXR : Hid (w.heap.size ≠ rb) := by have := h.ref.one.2; unfold Hid; omega
 have hB0 := h.below e1
 have hf := (r1.rd (B := tb) hDa).below e1 (Nat.le_of_lt ltb)
 have c0 := B1.cell 0 rfl
 have c1 := B1.cell 1 rfl
 clear h hd hDa r1 r2 r3 hU hU2
 go_enter Tryz.func13, Tryz.ntmps13
 go_wp2_with fail
 obtain ⟨u, hu⟩ : ∃ u, w.alloc (.cells #[.int .i64 d.b.k, .slice na d.ss.length nc, .slice x1 d.b.t.ns.length y1, .slice x2 d.b.t.kids.length y2, .string d.b.s1, .string d.b.s2, .string d.b.s3, .string d.b.s4, .slice b1 d.b.l1.length z1, .slice b2 d.b.l2.length z2, .slice b3 d.b.l3.length z3, .slice b4 d.b.l4.length z4, .bool d.b.br, .int .i64 d.b.ln] 38) = u := ⟨_, rfl⟩
 rw [hu] at e1 B1 hB0 hf c0 c1 ⊢
 clear hu
 refine (first_any hf).mono ?_
 rintro e w0 ⟨rfl, rfl⟩
 obtain ⟨s, hs⟩ : ∃ s, firstT d.ss = s := ⟨_, rfl⟩
 rw [hs] at hsz ⊢
 clear hs hf
 go_upto_region 6 with fail
 obtain ⟨v, hv⟩ : ∃ v, u.drew = v := ⟨_, rfl⟩
 have kv : Below tb w v := by rw [← hv]; exact (e1.mono (Nat.le_of_lt ltb)).drew
 have HBv : Hid (Both f M D v tb rb T) := by rw [← hv]; exact hB0.below (Below.refl _ _).drew
 have BX : BoxA v w.heap.size 38 #[.int .i64 d.b.k, .slice na d.ss.length nc, .slice x1 d.b.t.ns.length y1, .slice x2 d.b.t.kids.length y2, .string d.b.s1, .string d.b.s2, .string d.b.s3, .string d.b.s4, .slice b1 d.b.l1.length z1, .slice b2 d.b.l2.length z2, .slice b3 d.b.l3.length z3, .slice b4 d.b.l4.length z4, .bool d.b.br, .int .i64 d.b.ln] := by rw [← hv]; exact B1
 clear c0 c1 hB0 B1 e1
 refine wp_region_noPanic ?_
 refine wp_region_held_drew (S := (fun V => V.cell? ⟨w.heap.size, 0, none⟩ = some (.int .i64 d.b.k) ∧ V.cell? ⟨w.heap.size, 1, none⟩ = some (.slice na d.ss.length nc) ∧ V.cell? ⟨w.heap.size, 2, none⟩ = some (.slice x1 d.b.t.ns.length y1) ∧ V.cell? ⟨w.heap.size, 3, none⟩ = some (.slice x2 d.b.t.kids.length y2) ∧ V.cell? ⟨w.heap.size, 4, none⟩ = some (.string d.b.s1) ∧ V.cell? ⟨w.heap.size, 5, none⟩ = some (.string d.b.s2) ∧ V.cell? ⟨w.heap.size, 6, none⟩ = some (.string d.b.s3) ∧ V.cell? ⟨w.heap.size, 7, none⟩ = some (.string d.b.s4) ∧ V.cell? ⟨w.heap.size, 8, none⟩ = some (.slice b1 d.b.l1.length z1) ∧ V.cell? ⟨w.heap.size, 9, none⟩ = some (.slice b2 d.b.l2.length z2) ∧ V.cell? ⟨w.heap.size, 10, none⟩ = some (.slice b3 d.b.l3.length z3) ∧ V.cell? ⟨w.heap.size, 11, none⟩ = some (.slice b4 d.b.l4.length z4) ∧ V.cell? ⟨w.heap.size, 12, none⟩ = some (.bool d.b.br) ∧ V.cell? ⟨w.heap.size, 13, none⟩ = some (.int .i64 d.b.ln))) (by kernel_rfl) (by rw [hv]; exact cells14 BX) (fun hS => ?_)
 rw [hv] at hS ⊢
 clear hv
 refine tk (i := 0) (v := .pointer (some ⟨tb, 0, none⟩)) ?_
 simp only [Act.put, zA, z0Z, z1Z]
 refine tk (i := 1) (v := .pointer (some ⟨w.heap.size, 4, none⟩)) ?_
 simp only [Act.put, zA, z0Z, z1Z]
 refine tk (i := 2) (v := .agg #[.string d.b.s1, .string d.b.s2, .string d.b.s3, .string d.b.s4, .slice b1 d.b.l1.length z1, .slice b2 d.b.l2.length z2, .slice b3 d.b.l3.length z3, .slice b4 d.b.l4.length z4, .bool d.b.br]) ?_
 simp only [Act.put, zA, z0Z, z1Z]
 refine tk (i := 4) (v := .pointer (some ⟨rb, 0, none⟩)) ?_
 simp only [Act.put, zA, z0Z, z1Z]
 refine tk (i := 5) (v := .pointer (some ⟨w.heap.size, 4, none⟩)) ?_
 simp only [Act.put, zA, z0Z, z1Z]
 refine tk (i := 6) (v := .agg #[.string d.b.s1, .string d.b.s2, .string d.b.s3, .string d.b.s4, .slice b1 d.b.l1.length z1, .slice b2 d.b.l2.length z2, .slice b3 d.b.l3.length z3, .slice b4 d.b.l4.length z4, .bool d.b.br]) ?_
 simp only [Act.put, zA, z0Z, z1Z]
 refine wpAnyH_ready (rs := [3]) (by kernel_rfl) (by simp) ?_
 refine AllReadyH.cons rfl (fun K hK => ?_) AllReadyH.nil
 go_simp
 refine (setFn_any HDD.out.nam HBv.out.tab HCN.out ((HDV.out v kv).2.2.imp (HDM.out v kv) (fun _ _ => rfl)) HDD.out.short).mono ?_
 rintro e w1 hR
 obtain ⟨M1, hB1, kb1⟩ := HBv.out.ans (HBv.out.tok.setFn d.b.s1 (fnB d.b.s1 d.b.s2 d.b.s3 d.b.s4 d.b.l1 d.b.l2 d.b.l3 d.b.l4 d.b.br)) hR
 have BX1 : BoxA w1 w.heap.size 38 #[.int .i64 d.b.k, .slice na d.ss.length nc, .slice x1 d.b.t.ns.length y1, .slice x2 d.b.t.kids.length y2, .string d.b.s1, .string d.b.s2, .string d.b.s3, .string d.b.s4, .slice b1 d.b.l1.length z1, .slice b2 d.b.l2.length z2, .slice b3 d.b.l3.length z3, .slice b4 d.b.l4.length z4, .bool d.b.br, .int .i64 d.b.ln] := by
  obtain ⟨_, _, _, hk, _⟩ := hR
  exact BX.of_blk (hk.block _ BX.lt HNX.out)
 obtain ⟨rfl, _⟩ := hR
 have K1 : Below tb w w1 := kv.trans kb1
 obtain ⟨E1, hE1⟩ : ∃ E1, setFnE T d.b.s1 = E1 := ⟨_, rfl⟩
 rw [hE1]
 clear hE1
 go_simp
 refine hK.out _ _ (cells14 BX1) (fun _ => ?_)
 clear hK K
 refine wpAnyH_ready (rs := [7]) (by kernel_rfl) (by simp) ?_
 refine AllReadyH.cons rfl (fun K hK => ?_) AllReadyH.nil
 go_simp
 refine (refSetFn_any hne HDD.out.nam (HU.out w1 K1) hB1.ref (fun g hg => ⟨(hB1.dlt g hg).1, (hB1.dlt g hg).2.1⟩) (HDV.out w1 K1).2.2 (HDA.out w1 K1) HDD.out.short).mono ?_
 rintro e w2 hR2
 obtain ⟨hB2, kb2⟩ := hB1.right hR2
 obtain ⟨n2, rfl, _, kp2⟩ := hR2
 have BX2 : BoxA w2 w.heap.size 38 #[.int .i64 d.b.k, .slice na d.ss.length nc, .slice x1 d.b.t.ns.length y1, .slice x2 d.b.t.kids.length y2, .string d.b.s1, .string d.b.s2, .string d.b.s3, .string d.b.s4, .slice b1 d.b.l1.length z1, .slice b2 d.b.l2.length z2, .slice b3 d.b.l3.length z3, .slice b4 d.b.l4.length z4, .bool d.b.br, .int .i64 d.b.ln] := BX1.of_blk (kp2.block _ BX1.lt HXR.out)
 have HFIN : Hid (DoneP f tb rb w (.returned (.bool (E1 == n2))) w2) := ⟨_, _, _, _, rfl, hB2, K1.trans kb2⟩
 go_simp
 refine hK.out _ _ (cells14 BX2) (fun _ => ?_)
 clear hK K
 refine tk (i := 8) (oi := { dst := some 36, op := Op.binOp BinOp.eql 39 (Operand.tmp 31) (Operand.tmp 35) 39, type := 4, pos := "law.go:65", after := #[{ on := 3, ground := Ground.data }, { on := 7, ground := Ground.data }], guard := none }) (v := .bool (E1 == n2)) ?_
 simp only [Act.put, zA, z0Z, z1Z]
 refine tk (i := 9) (oi := { dst := some 6, op := Op.assign (Operand.tmp 36), type := 4, pos := "law.go:65", after := #[{ on := 8, ground := Ground.data }, { on := 7, ground := Ground.chain }, { on := 0, ground := Ground.phase }, { on := 1, ground := Ground.phase }, { on := 2, ground := Ground.phase }, { on := 3, ground := Ground.phase }, { on := 4, ground := Ground.phase }, { on := 5, ground := Ground.phase }, { on := 6, ground := Ground.phase }, { on := 7, ground := Ground.phase }, { on := 8, ground := Ground.phase }], guard := none }) (v := .bool (E1 == n2)) ?_
 simp only [Act.put, zA, z0Z, z1Z]
 refine wpAnyH_done (by kernel_rfl) ?_ _
 dsimp only [NoPanic]
 go_wp2
 go_ret
 exact HFIN.out
theorem do_case2 (hne : TellsErr ne) {v0 : DV} {d : Dd} (h : Both f M D w tb rb T) (hd : DdIs f Da w v0 d) (hDa : ∀ g, Da g → g < tb) (hU : Lib.Utf8Tabs 0 1 w) (hU2 : ∀ V, Below tb w V → Lib.Utf8Tabs 0 1 V) (hk : d.b.k = 2) :
    Calls Tryz.prog 13 #[.pointer (some ⟨tb, 0, none⟩), .pointer (some ⟨rb, 0, none⟩), .agg v0.cells] w (DoneP f tb rb w) := by
 obtain ⟨⟨na, nc, x1, y1, x2, y2, b1, z1, b2, z2, b3, z3, b4, z4, rfl, r1, r2, r3⟩, _⟩ := id hd
 have HDD : Hid (DdIs f Da w _ d) := hd
 have kk0 : (d.b.k == 0) = false := by simp [hk]
 have kk1 : (d.b.k == 1) = false := by simp [hk]
 have kk2 : (d.b.k == 2) = true := by simp [hk]
 change Calls Tryz.prog 13 #[.pointer (some ⟨tb, 0, none⟩), .pointer (some ⟨rb, 0, none⟩), .agg #[.int .i64 d.b.k, .slice na d.ss.length nc, .slice x1 d.b.t.ns.length y1, .slice x2 d.b.t.kids.length y2, .string d.b.s1, .string d.b.s2, .string d.b.s3, .string d.b.s4, .slice b1 d.b.l1.length z1, .slice b2 d.b.l2.length z2, .slice b3 d.b.l3.length z3, .slice b4 d.b.l4.length z4, .bool d.b.br, .int .i64 d.b.ln]] w (DoneP f tb rb w)
 clear hk
 have e1 := below_alloc w (.cells #[.int .i64 d.b.k, .slice na d.ss.length nc, .slice x1 d.b.t.ns.length y1, .slice x2 d.b.t.kids.length y2, .string d.b.s1, .string d.b.s2, .string d.b.s3, .string d.b.s4, .slice b1 d.b.l1.length z1, .slice b2 d.b.l2.length z2, .slice b3 d.b.l3.length z3, .slice b4 d.b.l4.length z4, .bool d.b.br, .int .i64 d.b.ln] 38)
 have B1 := boxA_new w #[.int .i64 d.b.k, .slice na d.ss.length nc, .slice x1 d.b.t.ns.length y1, .slice x2 d.b.t.kids.length y2, .string d.b.s1, .string d.b.s2, .string d.b.s3, .string d.b.s4, .slice b1 d.b.l1.length z1, .slice b2 d.b.l2.length z2, .slice b3 d.b.l3.length z3, .slice b4 d.b.l4.length z4, .bool d.b.br, .int .i64 d.b.ln] 38
 have HB : Hid (Both f M D w tb rb T) := h
 have ltb := h.tab.lowR.1
 have HDV : Hid (∀ V, Below tb w V → RdT Da V (.slice na d.ss.length nc) d.ss ∧ ArV (f + 1) Da V (.slice x1 d.b.t.ns.length y1) (.slice x2 d.b.t.kids.length y2) d.b.t ∧ Lists4 Da V b1 b2 b3 b4 z1 z2 z3 z4 d.b.l1 d.b.l2 d.b.l3 d.b.l4) := fun V hV => by
  have ag : Agree Da w V := fun g hg => hV.block g (hDa g hg)
  exact ⟨r1.imp (fun _ h => h) ag, r2.agree ag, r3.imp (fun _ h => h) ag⟩
 have HDA : Hid (∀ V, Below tb w V → ∀ g, Da g → g < V.heap.size) := fun V hV g hg => by have := hDa g hg; have := hV.size; omega
 have HDM : Hid (∀ V, Below tb w V → ∀ g, Da g → DM M V g) := fun V hV g hg => ⟨by have := hDa g hg; have := hV.size; omega, fun e => by have := (h.tab.lowR.2 g e).1; have := hDa g hg; omega⟩
 have HDR : Hid (∀ g, Da g → g ≠ rb) := fun g hg e => by have := hDa g hg; have := h.lrb; omega
 have HU : Hid (∀ V, Below tb w V → Lib.Utf8Tabs 0 1 V) := hU2
 have HCN : Hid (cntF T ≤ 1000000) := by have := h.tok.cnt; unfold Hid; omega
 have hsz := first_size hd.txt
 have HNX : Hid (¬ M w.heap.size) := fun e => by have := (h.tab.lowR.2 _ e).2; omega
 have HXR : Hid (w.heap.size ≠ rb) := by have := h.ref.one.2; unfold Hid; omega
 have hB0 := h.below e1
 have hf := (r1.rd (B := tb) hDa).below e1 (Nat.le_of_lt ltb)
 have c0 := B1.cell 0 rfl
 have c1 := B1.cell 1 rfl
 clear h hd hDa r1 r2 r3 hU hU2
 go_enter Tryz.func13, Tryz.ntmps13
 go_wp2_with fail
 obtain ⟨u, hu⟩ : ∃ u, w.alloc (.cells #[.int .i64 d.b.k, .slice na d.ss.length nc, .slice x1 d.b.t.ns.length y1, .slice x2 d.b.t.kids.length y2, .string d.b.s1, .string d.b.s2, .string d.b.s3, .string d.b.s4, .slice b1 d.b.l1.length z1, .slice b2 d.b.l2.length z2, .slice b3 d.b.l3.length z3, .slice b4 d.b.l4.length z4, .bool d.b.br, .int .i64 d.b.ln] 38) = u := ⟨_, rfl⟩
 rw [hu] at e1 B1 hB0 hf c0 c1 ⊢
 clear hu
 refine (first_any hf).mono ?_
 rintro e w0 ⟨rfl, rfl⟩
 obtain ⟨s, hs⟩ : ∃ s, firstT d.ss = s := ⟨_, rfl⟩
 rw [hs] at hsz ⊢
 clear hs hf
 go_upto_region 8 with fail
 obtain ⟨v, hv⟩ : ∃ v, u.drew = v := ⟨_, rfl⟩
 have kv : Below tb w v := by rw [← hv]; exact (e1.mono (Nat.le_of_lt ltb)).drew
 have HBv : Hid (Both f M D v tb rb T) := by rw [← hv]; exact hB0.below (Below.refl _ _).drew
 have BX : BoxA v w.heap.size 38 #[.int .i64 d.b.k, .slice na d.ss.length nc, .slice x1 d.b.t.ns.length y1, .slice x2 d.b.t.kids.length y2, .string d.b.s1, .string d.b.s2, .string d.b.s3, .string d.b.s4, .slice b1 d.b.l1.length z1, .slice b2 d.b.l2.length z2, .slice b3 d.b.l3.length z3, .slice b4 d.b.l4.length z4, .bool d.b.br, .int .i64 d.b.ln] := by rw [← hv]; exact B1
 clear c0 c1 hB0 B1 e1
 refine wp_region_noPanic ?_
 refine wp_region_held_drew (S := (fun V => V.cell? ⟨w.heap.size, 0, none⟩ = some (.int .i64 d.b.k) ∧ V.cell? ⟨w.heap.size, 1, none⟩ = some (.slice na d.ss.length nc) ∧ V.cell? ⟨w.heap.size, 2, none⟩ = some (.slice x1 d.b.t.ns.length y1) ∧ V.cell? ⟨w.heap.size, 3, none⟩ = some (.slice x2 d.b.t.kids.length y2) ∧ V.cell? ⟨w.heap.size, 4, none⟩ = some (.string d.b.s1) ∧ V.cell? ⟨w.heap.size, 5, none⟩ = some (.string d.b.s2) ∧ V.cell? ⟨w.heap.size, 6, none⟩ = some (.string d.b.s3) ∧ V.cell? ⟨w.heap.size, 7, none⟩ = some (.string d.b.s4) ∧ V.cell? ⟨w.heap.size, 8, none⟩ = some (.slice b1 d.b.l1.length z1) ∧ V.cell? ⟨w.heap.size, 9, none⟩ = some (.slice b2 d.b.l2.length z2) ∧ V.cell? ⟨w.heap.size, 10, none⟩ = some (.slice b3 d.b.l3.length z3) ∧ V.cell? ⟨w.heap.size, 11, none⟩ = some (.slice b4 d.b.l4.length z4) ∧ V.cell? ⟨w.heap.size, 12, none⟩ = some (.bool d.b.br) ∧ V.cell? ⟨w.heap.size, 13, none⟩ = some (.int .i64 d.b.ln))) (by kernel_rfl) (by rw [hv]; exact cells14 BX) (fun hS => ?_)
 rw [hv] at hS ⊢
 clear hv
 refine tk (i := 0) (v := .pointer (some ⟨tb, 0, none⟩)) ?_
 simp only [Act.put, zA, z0Z, z1Z]
 refine tk (i := 1) (v := .string s) ?_
 simp only [Act.put, zA, z0Z, z1Z]
 refine tk (i := 2) (v := .pointer (some ⟨w.heap.size, 13, none⟩)) ?_
 simp only [Act.put, zA, z0Z, z1Z]
 refine tk (i := 3) (v := .int .i64 d.b.ln) ?_
 simp only [Act.put, zA, z0Z, z1Z]
 refine tk (i := 5) (v := .pointer (some ⟨rb, 0, none⟩)) ?_
 simp only [Act.put, zA, z0Z, z1Z]
 refine tk (i := 6) (v := .string s) ?_
 simp only [Act.put, zA, z0Z, z1Z]
 refine tk (i := 7) (v := .pointer (some ⟨w.heap.size, 13, none⟩)) ?_
 simp only [Act.put, zA, z0Z, z1Z]
 refine tk (i := 8) (v := .int .i64 d.b.ln) ?_
 simp only [Act.put, zA, z0Z, z1Z]
 refine wpAnyH_ready (rs := [4]) (by kernel_rfl) (by simp) ?_
 refine AllReadyH.cons rfl (fun K hK => ?_) AllReadyH.nil
 go_simp
 refine (setLab_any s hsz HBv.out.tab HCN.out).mono ?_
 rintro e w1 hR
 obtain ⟨M1, hB1, kb1⟩ := HBv.out.ans (HBv.out.tok.setLab s d.b.ln) hR
 have BX1 : BoxA w1 w.heap.size 38 #[.int .i64 d.b.k, .slice na d.ss.length nc, .slice x1 d.b.t.ns.length y1, .slice x2 d.b.t.kids.length y2, .string d.b.s1, .string d.b.s2, .string d.b.s3, .string d.b.s4, .slice b1 d.b.l1.length z1, .slice b2 d.b.l2.length z2, .slice b3 d.b.l3.length z3, .slice b4 d.b.l4.length z4, .bool d.b.br, .int .i64 d.b.ln] := by
  obtain ⟨_, _, _, hk, _⟩ := hR
  exact BX.of_blk (hk.block _ BX.lt HNX.out)
 obtain ⟨rfl, _⟩ := hR
 have K1 : Below tb w w1 := kv.trans kb1
 obtain ⟨E1, hE1⟩ : ∃ E1, setLabE T s d.b.ln = E1 := ⟨_, rfl⟩
 rw [hE1]
 clear hE1
 go_simp
 refine hK.out _ _ (cells14 BX1) (fun _ => ?_)
 clear hK K
 refine wpAnyH_ready (rs := [9]) (by kernel_rfl) (by simp) ?_
 refine AllReadyH.cons rfl (fun K hK => ?_) AllReadyH.nil
 go_simp
 refine (refSetLab_any hne s hsz (HU.out w1 K1) hB1.ref (fun g hg => ⟨(hB1.dlt g hg).1, (hB1.dlt g hg).2.1⟩)).mono ?_
 rintro e w2 hR2
 obtain ⟨hB2, kb2⟩ := hB1.right hR2
 obtain ⟨n2, rfl, _, kp2⟩ := hR2
 have BX2 : BoxA w2 w.heap.size 38 #[.int .i64 d.b.k, .slice na d.ss.length nc, .slice x1 d.b.t.ns.length y1, .slice x2 d.b.t.kids.length y2, .string d.b.s1, .string d.b.s2, .string d.b.s3, .string d.b.s4, .slice b1 d.b.l1.length z1, .slice b2 d.b.l2.length z2, .slice b3 d.b.l3.length z3, .slice b4 d.b.l4.length z4, .bool d.b.br, .int .i64 d.b.ln] := BX1.of_blk (kp2.block _ BX1.lt HXR.out)
 have HFIN : Hid (DoneP f tb rb w (.returned (.bool (E1 == n2))) w2) := ⟨_, _, _, _, rfl, hB2, K1.trans kb2⟩
 go_simp
 refine hK.out _ _ (cells14 BX2) (fun _ => ?_)
 clear hK K
 refine tk (i := 10) (oi := { dst := some 49, op := Op.binOp BinOp.eql 39 (Operand.tmp 43) (Operand.tmp 48) 39, type := 4, pos := "law.go:67", after := #[{ on := 4, ground := Ground.data }, { on := 9, ground := Ground.data }], guard := none }) (v := .bool (E1 == n2)) ?_
 simp only [Act.put, zA, z0Z, z1Z]
 refine tk (i := 11) (oi := { dst := some 6, op := Op.assign (Operand.tmp 49), type := 4, pos := "law.go:67", after := #[{ on := 10, ground := Ground.data }, { on := 9, ground := Ground.chain }, { on := 0, ground := Ground.phase }, { on := 1, ground := Ground.phase }, { on := 2, ground := Ground.phase }, { on := 3, ground := Ground.phase }, { on := 4, ground := Ground.phase }, { on := 5, ground := Ground.phase }, { on := 6, ground := Ground.phase }, { on := 7, ground := Ground.phase }, { on := 8, ground := Ground.phase }, { on := 9, ground := Ground.phase }, { on := 10, ground := Ground.phase }], guard := none }) (v := .bool (E1 == n2)) ?_
 simp only [Act.put, zA, z0Z, z1Z]
 refine wpAnyH_done (by kernel_rfl) ?_ _
 dsimp only [NoPanic]
 go_wp2
 go_ret
 exact HFIN.out
theorem do_case3 (hne : TellsErr ne) {v0 : DV} {d : Dd} (h : Both f M D w tb rb T) (hd : DdIs f Da w v0 d) (hDa : ∀ g, Da g → g < tb) (hU : Lib.Utf8Tabs 0 1 w) (hU2 : ∀ V, Below tb w V → Lib.Utf8Tabs 0 1 V) (hk : d.b.k = 3) :
    Calls Tryz.prog 13 #[.pointer (some ⟨tb, 0, none⟩), .pointer (some ⟨rb, 0, none⟩), .agg v0.cells] w (DoneP f tb rb w) := by
 obtain ⟨⟨na, nc, x1, y1, x2, y2, b1, z1, b2, z2, b3, z3, b4, z4, rfl, r1, r2, r3⟩, _⟩ := id hd
 have HDD : Hid (DdIs f Da w _ d) := hd
 have kk0 : (d.b.k == 0) = false := by simp [hk]
 have kk1 : (d.b.k == 1) = false := by simp [hk]
 have kk2 : (d.b.k == 2) = false := by simp [hk]
 have kk3 : (d.b.k == 3) = true := by simp [hk]
 change Calls Tryz.prog 13 #[.pointer (some ⟨tb, 0, none⟩), .pointer (some ⟨rb, 0, none⟩), .agg #[.int .i64 d.b.k, .slice na d.ss.length nc, .slice x1 d.b.t.ns.length y1, .slice x2 d.b.t.kids.length y2, .string d.b.s1, .string d.b.s2, .string d.b.s3, .string d.b.s4, .slice b1 d.b.l1.length z1, .slice b2 d.b.l2.length z2, .slice b3 d.b.l3.length z3, .slice b4 d.b.l4.length z4, .bool d.b.br, .int .i64 d.b.ln]] w (DoneP f tb rb w)
 clear hk
 have e1 := below_alloc w (.cells #[.int .i64 d.b.k, .slice na d.ss.length nc, .slice x1 d.b.t.ns.length y1, .slice x2 d.b.t.kids.length y2, .string d.b.s1, .string d.b.s2, .string d.b.s3, .string d.b.s4, .slice b1 d.b.l1.length z1, .slice b2 d.b.l2.length z2, .slice b3 d.b.l3.length z3, .slice b4 d.b.l4.length z4, .bool d.b.br, .int .i64 d.b.ln] 38)
 have B1 := boxA_new w #[.int .i64 d.b.k, .slice na d.ss.length nc, .slice x1 d.b.t.ns.length y1, .slice x2 d.b.t.kids.length y2, .string d.b.s1, .string d.b.s2, .string d.b.s3, .string d.b.s4, .slice b1 d.b.l1.length z1, .slice b2 d.b.l2.length z2, .slice b3 d.b.l3.length z3, .slice b4 d.b.l4.length z4, .bool d.b.br, .int .i64 d.b.ln] 38
 have HB : Hid (Both f M D w tb rb T) := h
 have ltb := h.tab.lowR.1
 have HDV : Hid (∀ V, Below tb w V → RdT Da V (.slice na d.ss.length nc) d.ss ∧ ArV (f + 1) Da V (.slice x1 d.b.t.ns.length y1) (.slice x2 d.b.t.kids.length y2) d.b.t ∧ Lists4 Da V b1 b2 b3 b4 z1 z2 z3 z4 d.b.l1 d.b.l2 d.b.l3 d.b.l4) := fun V hV => by
  have ag : Agree Da w V := fun g hg => hV.block g (hDa g hg)
  exact ⟨r1.imp (fun _ h => h) ag, r2.agree ag, r3.imp (fun _ h => h) ag⟩
 have HDA : Hid (∀ V, Below tb w V → ∀ g, Da g → g < V.heap.size) := fun V hV g hg => by have := hDa g hg; have := hV.size; omega
 have HDM : Hid (∀ V, Below tb w V → ∀ g, Da g → DM M V g) := fun V hV g hg => ⟨by have := hDa g hg; have := hV.size; omega, fun e => by have := (h.tab.lowR.2 g e).1; have := hDa g hg; omega⟩
 have HDR : Hid (∀ g, Da g → g ≠ rb) := fun g hg e => by have := hDa g hg; have := h.lrb; omega
 have HU : Hid (∀ V, Below tb w V → Lib.Utf8Tabs 0 1 V) := hU2
 have HCN : Hid (cntF T ≤ 1000000) := by have := h.tok.cnt; unfold Hid; omega
 have hsz := first_size hd.txt
 have HNX : Hid (¬ M w.heap.size) := fun e => by have := (h.tab.lowR.2 _ e).2; omega
 have HXR : Hid (w.heap.size ≠ rb) := by have := h.ref.one.2; unfold Hid; omega
 have hB0 := h.below e1
 have hf := (r1.rd (B := tb) hDa).below e1 (Nat.le_of_lt ltb)
 have c0 := B1.cell 0 rfl
 have c1 := B1.cell 1 rfl
 clear h hd hDa r1 r2 r3 hU hU2
 go_enter Tryz.func13, Tryz.ntmps13
 go_wp2_with fail
 obtain ⟨u, hu⟩ : ∃ u, w.alloc (.cells #[.int .i64 d.b.k, .slice na d.ss.length nc, .slice x1 d.b.t.ns.length y1, .slice x2 d.b.t.kids.length y2, .string d.b.s1, .string d.b.s2, .string d.b.s3, .string d.b.s4, .slice b1 d.b.l1.length z1, .slice b2 d.b.l2.length z2, .slice b3 d.b.l3.length z3, .slice b4 d.b.l4.length z4, .bool d.b.br, .int .i64 d.b.ln] 38) = u := ⟨_, rfl⟩
 rw [hu] at e1 B1 hB0 hf c0 c1 ⊢
 clear hu
 refine (first_any hf).mono ?_
 rintro e w0 ⟨rfl, rfl⟩
 obtain ⟨s, hs⟩ : ∃ s, firstT d.ss = s := ⟨_, rfl⟩
 rw [hs] at hsz ⊢
 clear hs hf
 go_upto_region 10 with fail
 obtain ⟨v, hv⟩ : ∃ v, u.drew = v := ⟨_, rfl⟩
 have kv : Below tb w v := by rw [← hv]; exact (e1.mono (Nat.le_of_lt ltb)).drew
 have HBv : Hid (Both f M D v tb rb T) := by rw [← hv]; exact hB0.below (Below.refl _ _).drew
 have BX : BoxA v w.heap.size 38 #[.int .i64 d.b.k, .slice na d.ss.length nc, .slice x1 d.b.t.ns.length y1, .slice x2 d.b.t.kids.length y2, .string d.b.s1, .string d.b.s2, .string d.b.s3, .string d.b.s4, .slice b1 d.b.l1.length z1, .slice b2 d.b.l2.length z2, .slice b3 d.b.l3.length z3, .slice b4 d.b.l4.length z4, .bool d.b.br, .int .i64 d.b.ln] := by rw [← hv]; exact B1
 clear c0 c1 hB0 B1 e1
 refine wp_region_noPanic ?_
 refine wp_region_held_drew (S := (fun V => V.cell? ⟨w.heap.size, 0, none⟩ = some (.int .i64 d.b.k) ∧ V.cell? ⟨w.heap.size, 1, none⟩ = some (.slice na d.ss.length nc) ∧ V.cell? ⟨w.heap.size, 2, none⟩ = some (.slice x1 d.b.t.ns.length y1) ∧ V.cell? ⟨w.heap.size, 3, none⟩ = some (.slice x2 d.b.t.kids.length y2) ∧ V.cell? ⟨w.heap.size, 4, none⟩ = some (.string d.b.s1) ∧ V.cell? ⟨w.heap.size, 5, none⟩ = some (.string d.b.s2) ∧ V.cell? ⟨w.heap.size, 6, none⟩ = some (.string d.b.s3) ∧ V.cell? ⟨w.heap.size, 7, none⟩ = some (.string d.b.s4) ∧ V.cell? ⟨w.heap.size, 8, none⟩ = some (.slice b1 d.b.l1.length z1) ∧ V.cell? ⟨w.heap.size, 9, none⟩ = some (.slice b2 d.b.l2.length z2) ∧ V.cell? ⟨w.heap.size, 10, none⟩ = some (.slice b3 d.b.l3.length z3) ∧ V.cell? ⟨w.heap.size, 11, none⟩ = some (.slice b4 d.b.l4.length z4) ∧ V.cell? ⟨w.heap.size, 12, none⟩ = some (.bool d.b.br) ∧ V.cell? ⟨w.heap.size, 13, none⟩ = some (.int .i64 d.b.ln))) (by kernel_rfl) (by rw [hv]; exact cells14 BX) (fun hS => ?_)
 rw [hv] at hS ⊢
 clear hv
 refine tk (i := 0) (v := .pointer (some ⟨tb, 0, none⟩)) ?_
 simp only [Act.put, zA, z0Z, z1Z]
 refine tk (i := 1) (v := .pointer (some ⟨w.heap.size, 1, none⟩)) ?_
 simp only [Act.put, zA, z0Z, z1Z]
 refine tk (i := 2) (v := .slice na d.ss.length nc) ?_
 simp only [Act.put, zA, z0Z, z1Z]
 refine tk (i := 4) (v := .pointer (some ⟨rb, 0, none⟩)) ?_
 simp only [Act.put, zA, z0Z, z1Z]
 refine tk (i := 5) (v := .pointer (some ⟨w.heap.size, 1, none⟩)) ?_
 simp only [Act.put, zA, z0Z, z1Z]
 refine tk (i := 6) (v := .slice na d.ss.length nc) ?_
 simp only [Act.put, zA, z0Z, z1Z]
 refine wpAnyH_ready (rs := [3]) (by kernel_rfl) (by simp) ?_
 refine AllReadyH.cons rfl (fun K hK => ?_) AllReadyH.nil
 go_simp
 refine (tErase_any HBv.out.tab ((HDV.out v kv).1.imp (HDM.out v kv) (fun _ _ => rfl))).mono ?_
 rintro e w1 ⟨rfl, h1, h2⟩
 obtain ⟨hB1, kb1⟩ := HBv.out.left h1 (HBv.out.tok.era (ss := d.ss)) h2 (NewM.refl _ _)
 have BX1 : BoxA w1 w.heap.size 38 #[.int .i64 d.b.k, .slice na d.ss.length nc, .slice x1 d.b.t.ns.length y1, .slice x2 d.b.t.kids.length y2, .string d.b.s1, .string d.b.s2, .string d.b.s3, .string d.b.s4, .slice b1 d.b.l1.length z1, .slice b2 d.b.l2.length z2, .slice b3 d.b.l3.length z3, .slice b4 d.b.l4.length z4, .bool d.b.br, .int .i64 d.b.ln] := BX.of_blk (h2.block _ BX.lt HNX.out)
 have M1 := M
 have K1 : Below tb w w1 := kv.trans kb1
 obtain ⟨E1, hE1⟩ : ∃ E1, ((eraN T d.ss : Nat) : Int) = E1 := ⟨_, rfl⟩
 rw [hE1]
 clear hE1
 go_simp
 refine hK.out _ _ (cells14 BX1) (fun _ => ?_)
 clear hK K
 refine wpAnyH_ready (rs := [7]) (by kernel_rfl) (by simp) ?_
 refine AllReadyH.cons rfl (fun K hK => ?_) AllReadyH.nil
 go_simp
 refine (refErase_any hB1.ref (fun g hg => ⟨(hB1.dlt g hg).1, (hB1.dlt g hg).2.1⟩) (HDV.out w1 K1).1 (fun g hg => ⟨HDA.out w1 K1 g hg, HDR.out g hg⟩)).mono ?_
 rintro e w2 hR2
 obtain ⟨hB2, kb2⟩ := hB1.right hR2
 obtain ⟨n2, rfl, _, kp2⟩ := hR2
 have BX2 : BoxA w2 w.heap.size 38 #[.int .i64 d.b.k, .slice na d.ss.length nc, .slice x1 d.b.t.ns.length y1, .slice x2 d.b.t.kids.length y2, .string d.b.s1, .string d.b.s2, .string d.b.s3, .string d.b.s4, .slice b1 d.b.l1.length z1, .slice b2 d.b.l2.length z2, .slice b3 d.b.l3.length z3, .slice b4 d.b.l4.length z4, .bool d.b.br, .int .i64 d.b.ln] := BX1.of_blk (kp2.block _ BX1.lt HXR.out)
 have HFIN : Hid (DoneP f tb rb w (.returned (.bool (E1 == n2))) w2) := ⟨_, _, _, _, rfl, hB2, K1.trans kb2⟩
 go_simp
 refine hK.out _ _ (cells14 BX2) (fun _ => ?_)
 clear hK K
 refine tk (i := 8) (oi := { dst := some 60, op := Op.binOp BinOp.eql 3 (Operand.tmp 55) (Operand.tmp 59) 3, type := 4, pos := "law.go:69", after := #[{ on := 3, ground := Ground.data }, { on := 7, ground := Ground.data }], guard := none }) (v := .bool (E1 == n2)) ?_
 simp only [Act.put, zA, z0Z, z1Z]
 refine tk (i := 9) (oi := { dst := some 6, op := Op.assign (Operand.tmp 60), type := 4, pos := "law.go:69", after := #[{ on := 8, ground := Ground.data }, { on := 7, ground := Ground.chain }, { on := 0, ground := Ground.phase }, { on := 1, ground := Ground.phase }, { on := 2, ground := Ground.phase }, { on := 3, ground := Ground.phase }, { on := 4, ground := Ground.phase }, { on := 5, ground := Ground.phase }, { on := 6, ground := Ground.phase }, { on := 7, ground := Ground.phase }, { on := 8, ground := Ground.phase }], guard := none }) (v := .bool (E1 == n2)) ?_
 simp only [Act.put, zA, z0Z, z1Z]
 refine wpAnyH_done (by kernel_rfl) ?_ _
 dsimp only [NoPanic]
 go_wp2
 go_ret
 exact HFIN.out
theorem do_case4 (hne : TellsErr ne) {v0 : DV} {d : Dd} (h : Both f M D w tb rb T) (hd : DdIs f Da w v0 d) (hDa : ∀ g, Da g → g < tb) (hU : Lib.Utf8Tabs 0 1 w) (hU2 : ∀ V, Below tb w V → Lib.Utf8Tabs 0 1 V) (hk : d.b.k = 4) :
    Calls Tryz.prog 13 #[.pointer (some ⟨tb, 0, none⟩), .pointer (some ⟨rb, 0, none⟩), .agg v0.cells] w (DoneP f tb rb w) := by
 obtain ⟨⟨na, nc, x1, y1, x2, y2, b1, z1, b2, z2, b3, z3, b4, z4, rfl, r1, r2, r3⟩, _⟩ := id hd
 have HDD : Hid (DdIs f Da w _ d) := hd
 have kk0 : (d.b.k == 0) = false := by simp [hk]
 have kk1 : (d.b.k == 1) = false := by simp [hk]
 have kk2 : (d.b.k == 2) = false := by simp [hk]
 have kk3 : (d.b.k == 3) = false := by simp [hk]
 have kk4 : (d.b.k == 4) = true := by simp [hk]
 change Calls Tryz.prog 13 #[.pointer (some ⟨tb, 0, none⟩), .pointer (some ⟨rb, 0, none⟩), .agg #[.int .i64 d.b.k, .slice na d.ss.length nc, .slice x1 d.b.t.ns.length y1, .slice x2 d.b.t.kids.length y2, .string d.b.s1, .string d.b.s2, .string d.b.s3, .string d.b.s4, .slice b1 d.b.l1.length z1, .slice b2 d.b.l2.length z2, .slice b3 d.b.l3.length z3, .slice b4 d.b.l4.length z4, .bool d.b.br, .int .i64 d.b.ln]] w (DoneP f tb rb w)
 clear hk
 have e1 := below_alloc w (.cells #[.int .i64 d.b.k, .slice na d.ss.length nc, .slice x1 d.b.t.ns.length y1, .slice x2 d.b.t.kids.length y2, .string d.b.s1, .string d.b.s2, .string d.b.s3, .string d.b.s4, .slice b1 d.b.l1.length z1, .slice b2 d.b.l2.length z2, .slice b3 d.b.l3.length z3, .slice b4 d.b.l4.length z4, .bool d.b.br, .int .i64 d.b.ln] 38)
 have B1 := boxA_new w #[.int .i64 d.b.k, .slice na d.ss.length nc, .slice x1 d.b.t.ns.length y1, .slice x2 d.b.t.kids.length y2, .string d.b.s1, .string d.b.s2, .string d.b.s3, .string d.b.s4, .slice b1 d.b.l1.length z1, .slice b2 d.b.l2.length z2, .slice b3 d.b.l3.length z3, .slice b4 d.b.l4.length z4, .bool d.b.br, .int .i64 d.b.ln] 38
 have HB : Hid (Both f M D w tb rb T) := h
 have ltb := h.tab.lowR.1
 have HDV : Hid (∀ V, Below tb w V → RdT Da V (.slice na d.ss.length nc) d.ss ∧ ArV (f + 1) Da V (.slice x1 d.b.t.ns.length y1) (.slice x2 d.b.t.kids.length y2) d.b.t ∧ Lists4 Da V b1 b2 b3 b4 z1 z2 z3 z4 d.b.l1 d.b.l2 d.b.l3 d.b.l4) := fun V hV => by
  have ag : Agree Da w V := fun g hg => hV.block g (hDa g hg)
  exact ⟨r1.imp (fun _ h => h) ag, r2.agree ag, r3.imp (fun _ h => h) ag⟩
 have HDA : Hid (∀ V, Below tb w V → ∀ g, Da g → g < V.heap.size) := fun V hV g hg => by have := hDa g hg; have := hV.size; omega
 have HDM : Hid (∀ V, Below tb w V → ∀ g, Da g → DM M V g) := fun V hV g hg => ⟨by have := hDa g hg; have := hV.size; omega, fun e => by have := (h.tab.lowR.2 g e).1; have := hDa g hg; omega⟩
 have HDR : Hid (∀ g, Da g → g ≠ rb) := fun g hg e => by have := hDa g hg; have := h.lrb; omega
 have HU : Hid (∀ V, Below tb w V → Lib.Utf8Tabs 0 1 V) := hU2
 have HCN : Hid (cntF T ≤ 1000000) := by have := h.tok.cnt; unfold Hid; omega
 have hsz := first_size hd.txt
 have HNX : Hid (¬ M w.heap.size) := fun e => by have := (h.tab.lowR.2 _ e).2; omega
 have HXR : Hid (w.heap.size ≠ rb) := by have := h.ref.one.2; unfold Hid; omega
 have hB0 := h.below e1
 have hf := (r1.rd (B := tb) hDa).below e1 (Nat.le_of_lt ltb)
 have c0 := B1.cell 0 rfl
 have c1 := B1.cell 1 rfl
 clear h hd hDa r1 r2 r3 hU hU2
 go_enter Tryz.func13, Tryz.ntmps13
 go_wp2_with fail
 obtain ⟨u, hu⟩ : ∃ u, w.alloc (.cells #[.int .i64 d.b.k, .slice na d.ss.length nc, .slice x1 d.b.t.ns.length y1, .slice x2 d.b.t.kids.length y2, .string d.b.s1, .string d.b.s2, .string d.b.s3, .string d.b.s4, .slice b1 d.b.l1.length z1, .slice b2 d.b.l2.length z2, .slice b3 d.b.l3.length z3, .slice b4 d.b.l4.length z4, .bool d.b.br, .int .i64 d.b.ln] 38) = u := ⟨_, rfl⟩
 rw [hu] at e1 B1 hB0 hf c0 c1 ⊢
 clear hu
 refine (first_any hf).mono ?_
 rintro e w0 ⟨rfl, rfl⟩
 obtain ⟨s, hs⟩ : ∃ s, firstT d.ss = s := ⟨_, rfl⟩
 rw [hs] at hsz ⊢
 clear hs hf
 go_upto_region 12 with fail
 obtain ⟨v, hv⟩ : ∃ v, u.drew = v := ⟨_, rfl⟩
 have kv : Below tb w v := by rw [← hv]; exact (e1.mono (Nat.le_of_lt ltb)).drew
 have HBv : Hid (Both f M D v tb rb T) := by rw [← hv]; exact hB0.below (Below.refl _ _).drew
 have BX : BoxA v w.heap.size 38 #[.int .i64 d.b.k, .slice na d.ss.length nc, .slice x1 d.b.t.ns.length y1, .slice x2 d.b.t.kids.length y2, .string d.b.s1, .string d.b.s2, .string d.b.s3, .string d.b.s4, .slice b1 d.b.l1.length z1, .slice b2 d.b.l2.length z2, .slice b3 d.b.l3.length z3, .slice b4 d.b.l4.length z4, .bool d.b.br, .int .i64 d.b.ln] := by rw [← hv]; exact B1
 clear c0 c1 hB0 B1 e1
 refine wp_region_noPanic ?_
 refine wp_region_held_drew (S := (fun V => V.cell? ⟨w.heap.size, 0, none⟩ = some (.int .i64 d.b.k) ∧ V.cell? ⟨w.heap.size, 1, none⟩ = some (.slice na d.ss.length nc) ∧ V.cell? ⟨w.heap.size, 2, none⟩ = some (.slice x1 d.b.t.ns.length y1) ∧ V.cell? ⟨w.heap.size, 3, none⟩ = some (.slice x2 d.b.t.kids.length y2) ∧ V.cell? ⟨w.heap.size, 4, none⟩ = some (.string d.b.s1) ∧ V.cell? ⟨w.heap.size, 5, none⟩ = some (.string d.b.s2) ∧ V.cell? ⟨w.heap.size, 6, none⟩ = some (.string d.b.s3) ∧ V.cell? ⟨w.heap.size, 7, none⟩ = some (.string d.b.s4) ∧ V.cell? ⟨w.heap.size, 8, none⟩ = some (.slice b1 d.b.l1.length z1) ∧ V.cell? ⟨w.heap.size, 9, none⟩ = some (.slice b2 d.b.l2.length z2) ∧ V.cell? ⟨w.heap.size, 10, none⟩ = some (.slice b3 d.b.l3.length z3) ∧ V.cell? ⟨w.heap.size, 11, none⟩ = some (.slice b4 d.b.l4.length z4) ∧ V.cell? ⟨w.heap.size, 12, none⟩ = some (.bool d.b.br) ∧ V.cell? ⟨w.heap.size, 13, none⟩ = some (.int .i64 d.b.ln))) (by kernel_rfl) (by rw [hv]; exact cells14 BX) (fun hS => ?_)
 rw [hv] at hS ⊢
 clear hv
 refine tk (i := 0) (v := .pointer (some ⟨tb, 0, none⟩)) ?_
 simp only [Act.put, zA, z0Z, z1Z]
 refine tk (i := 1) (v := .pointer (some ⟨w.heap.size, 1, none⟩)) ?_
 simp only [Act.put, zA, z0Z, z1Z]
 refine tk (i := 2) (v := .slice na d.ss.length nc) ?_
 simp only [Act.put, zA, z0Z, z1Z]
 refine tk (i := 4) (v := .pointer (some ⟨rb, 0, none⟩)) ?_
 simp only [Act.put, zA, z0Z, z1Z]
 refine tk (i := 5) (v := .pointer (some ⟨w.heap.size, 1, none⟩)) ?_
 simp only [Act.put, zA, z0Z, z1Z]
 refine tk (i := 6) (v := .slice na d.ss.length nc) ?_
 simp only [Act.put, zA, z0Z, z1Z]
 refine wpAnyH_ready (rs := [3]) (by kernel_rfl) (by simp) ?_
 refine AllReadyH.cons rfl (fun K hK => ?_) AllReadyH.nil
 go_simp
 refine (tPush_any HBv.out.tab ((HDV.out v kv).1.rd (HDA.out v kv)) (Nat.le_refl _) HDD.out.txt).mono ?_
 rintro e w1 hR
 obtain ⟨M1, hB1, kb1⟩ := HBv.out.ans (HBv.out.tok.push d.ss) hR
 have BX1 : BoxA w1 w.heap.size 38 #[.int .i64 d.b.k, .slice na d.ss.length nc, .slice x1 d.b.t.ns.length y1, .slice x2 d.b.t.kids.length y2, .string d.b.s1, .string d.b.s2, .string d.b.s3, .string d.b.s4, .slice b1 d.b.l1.length z1, .slice b2 d.b.l2.length z2, .slice b3 d.b.l3.length z3, .slice b4 d.b.l4.length z4, .bool d.b.br, .int .i64 d.b.ln] := by
  obtain ⟨_, _, _, hk, _⟩ := hR
  exact BX.of_blk (hk.block _ BX.lt HNX.out)
 obtain ⟨rfl, _⟩ := hR
 have K1 : Below tb w w1 := kv.trans kb1
 obtain ⟨E1, hE1⟩ : ∃ E1, pushE T d.ss = E1 := ⟨_, rfl⟩
 rw [hE1]
 clear hE1
 go_simp
 refine hK.out _ _ (cells14 BX1) (fun _ => ?_)
 clear hK K
 refine wpAnyH_ready (rs := [7]) (by kernel_rfl) (by simp) ?_
 refine AllReadyH.cons rfl (fun K hK => ?_) AllReadyH.nil
 go_simp
 refine (refPush_any hne (HU.out w1 K1) hB1.ref (fun g hg => ⟨(hB1.dlt g hg).1, (hB1.dlt g hg).2.1⟩) (HDV.out w1 K1).1 (HDA.out w1 K1) HDD.out.txt HDD.out.few).mono ?_
 rintro e w2 hR2
 obtain ⟨hB2, kb2⟩ := hB1.right hR2
 obtain ⟨n2, rfl, _, kp2⟩ := hR2
 have BX2 : BoxA w2 w.heap.size 38 #[.int .i64 d.b.k, .slice na d.ss.length nc, .slice x1 d.b.t.ns.length y1, .slice x2 d.b.t.kids.length y2, .string d.b.s1, .string d.b.s2, .string d.b.s3, .string d.b.s4, .slice b1 d.b.l1.length z1, .slice b2 d.b.l2.length z2, .slice b3 d.b.l3.length z3, .slice b4 d.b.l4.length z4, .bool d.b.br, .int .i64 d.b.ln] := BX1.of_blk (kp2.block _ BX1.lt HXR.out)
 have HFIN : Hid (DoneP f tb rb w (.returned (.bool (E1 == n2))) w2) := ⟨_, _, _, _, rfl, hB2, K1.trans kb2⟩
 go_simp
 refine hK.out _ _ (cells14 BX2) (fun _ => ?_)
 clear hK K
 refine tk (i := 8) (oi := { dst := some 71, op := Op.binOp BinOp.eql 39 (Operand.tmp 66) (Operand.tmp 70) 39, type := 4, pos := "law.go:71", after := #[{ on := 3, ground := Ground.data }, { on := 7, ground := Ground.data }], guard := none }) (v := .bool (E1 == n2)) ?_
 simp only [Act.put, zA, z0Z, z1Z]
 refine tk (i := 9) (oi := { dst := some 6, op := Op.assign (Operand.tmp 71), type := 4, pos := "law.go:71", after := #[{ on := 8, ground := Ground.data }, { on := 7, ground := Ground.chain }, { on := 0, ground := Ground.phase }, { on := 1, ground := Ground.phase }, { on := 2, ground := Ground.phase }, { on := 3, ground := Ground.phase }, { on := 4, ground := Ground.phase }, { on := 5, ground := Ground.phase }, { on := 6, ground := Ground.phase }, { on := 7, ground := Ground.phase }, { on := 8, ground := Ground.phase }], guard := none }) (v := .bool (E1 == n2)) ?_
 simp only [Act.put, zA, z0Z, z1Z]
 refine wpAnyH_done (by kernel_rfl) ?_ _
 dsimp only [NoPanic]
 go_wp2
 go_ret
 exact HFIN.out
end
end
section
open Go.RowKit
attribute [local go_sem] Oper.semAt_some
section
variable {f : Nat} {M D Da : Nat → Prop} {w : World} {tb rb : Nat} {T : List FrB}
theorem do_case5 {v0 : DV} {d : Dd} (h : Both f M D w tb rb T) (hd : DdIs f Da w v0 d) (hDa : ∀ g, Da g → g < tb) (hk : ∀ j : Int, 0 ≤ j → j ≤ 4 → ¬ d.b.k = j) :
    Calls Tryz.prog 13 #[.pointer (some ⟨tb, 0, none⟩), .pointer (some ⟨rb, 0, none⟩), .agg v0.cells] w (DoneP f tb rb w) := by
 obtain ⟨⟨na, nc, x1, y1, x2, y2, b1, z1, b2, z2, b3, z3, b4, z4, rfl, r1, r2, r3⟩, _⟩ := id hd
 have kk0 : (d.b.k == 0) = false := by rw [beq_eq_false_iff_ne]; exact hk 0 (by omega) (by omega)
 have kk1 : (d.b.k == 1) = false := by rw [beq_eq_false_iff_ne]; exact hk 1 (by omega) (by omega)
 have kk2 : (d.b.k == 2) = false := by rw [beq_eq_false_iff_ne]; exact hk 2 (by omega) (by omega)
 have kk3 : (d.b.k == 3) = false := by rw [beq_eq_false_iff_ne]; exact hk 3 (by omega) (by omega)
 have kk4 : (d.b.k == 4) = false := by rw [beq_eq_false_iff_ne]; exact hk 4 (by omega) (by omega)
 change Calls Tryz.prog 13 #[.pointer (some ⟨tb, 0, none⟩), .pointer (some ⟨rb, 0, none⟩), .agg #[.int .i64 d.b.k, .slice na d.ss.length nc, .slice x1 d.b.t.ns.length y1, .slice x2 d.b.t.kids.length y2, .string d.b.s1, .string d.b.s2, .string d.b.s3, .string d.b.s4, .slice b1 d.b.l1.length z1, .slice b2 d.b.l2.length z2, .slice b3 d.b.l3.length z3, .slice b4 d.b.l4.length z4, .bool d.b.br, .int .i64 d.b.ln]] w (DoneP f tb rb w)
 clear hk
 have e1 := below_alloc w (.cells #[.int .i64 d.b.k, .slice na d.ss.length nc, .slice x1 d.b.t.ns.length y1, .slice x2 d.b.t.kids.length y2, .string d.b.s1, .string d.b.s2, .string d.b.s3, .string d.b.s4, .slice b1 d.b.l1.length z1, .slice b2 d.b.l2.length z2, .slice b3 d.b.l3.length z3, .slice b4 d.b.l4.length z4, .bool d.b.br, .int .i64 d.b.ln] 38)
 have B1 := boxA_new w #[.int .i64 d.b.k, .slice na d.ss.length nc, .slice x1 d.b.t.ns.length y1, .slice x2 d.b.t.kids.length y2, .string d.b.s1, .string d.b.s2, .string d.b.s3, .string d.b.s4, .slice b1 d.b.l1.length z1, .slice b2 d.b.l2.length z2, .slice b3 d.b.l3.length z3, .slice b4 d.b.l4.length z4, .bool d.b.br, .int .i64 d.b.ln] 38
 have ltb := h.tab.lowR.1
 have hf := (r1.rd (B := tb) hDa).below e1 (Nat.le_of_lt ltb)
 have hB0 := h.below e1
 have c0 := B1.cell 0 rfl
 have c1 := B1.cell 1 rfl
 clear h hd hDa r1 r2 r3
 go_enter Tryz.func13, Tryz.ntmps13
 go_wp2_with fail
 obtain ⟨u, hu⟩ : ∃ u, w.alloc (.cells #[.int .i64 d.b.k, .slice na d.ss.length nc, .slice x1 d.b.t.ns.length y1, .slice x2 d.b.t.kids.length y2, .string d.b.s1, .string d.b.s2, .string d.b.s3, .string d.b.s4, .slice b1 d.b.l1.length z1, .slice b2 d.b.l2.length z2, .slice b3 d.b.l3.length z3, .slice b4 d.b.l4.length z4, .bool d.b.br, .int .i64 d.b.ln] 38) = u := ⟨_, rfl⟩
 rw [hu] at e1 B1 hB0 hf c0 c1 ⊢
 clear hu
 refine (first_any hf).mono ?_
 rintro e w0 ⟨rfl, rfl⟩
 generalize firstT d.ss = s
 have HB0 : Hid (Both f M D u tb rb T) := hB0
 have HK0 : Hid (Below tb w u) := e1.mono (Nat.le_of_lt ltb)
 clear hf hB0 e1
 go_wp2_with fail
 refine (tPop_any HB0.out.tab (by have := HB0.out.tok.few; omega)).mono ?_
 rintro e w1 hR
 obtain ⟨M1, hB1, kb1⟩ := HB0.out.ans HB0.out.tok.pop hR
 obtain ⟨rfl, _⟩ := hR
 generalize popE T = E1
 have HB1 : Hid (Both f M1 D w1 tb rb (popT T)) := hB1
 have HK1 : Hid (Below tb w w1) := HK0.out.trans kb1
 clear hB1 kb1 HB0 HK0 c0 c1 B1
 go_wp2_with fail
 refine (refPop_any HB1.out.ref (fun g hg => ⟨(HB1.out.dlt g hg).1, (HB1.out.dlt g hg).2.1⟩)).mono ?_
 rintro e w2 hR2
 obtain ⟨hB2, kb2⟩ := HB1.out.right hR2
 obtain ⟨n2, rfl, _⟩ := hR2
 have HFIN : Hid (DoneP f tb rb w (.returned (.bool (E1 == n2))) w2) := ⟨_, _, _, _, rfl, hB2, HK1.out.trans kb2⟩
 clear hB2 kb2
 go_wp2
 go_ret
 exact HFIN.out
theorem do_any (hne : TellsErr ne) {v0 : DV} {d : Dd} (h : Both f M D w tb rb T) (hd : DdIs f Da w v0 d) (hDa : ∀ g, Da g → g < tb) (hU2 : ∀ V, Below tb w V → Lib.Utf8Tabs 0 1 V) :
    Calls Tryz.prog 13 #[.pointer (some ⟨tb, 0, none⟩), .pointer (some ⟨rb, 0, none⟩), .agg v0.cells] w (DoneP f tb rb w) := by
 have hU := hU2 w (Below.refl _ _)
 by_cases h0 : d.b.k = 0
 · exact do_case0 hne h hd hDa hU hU2 h0
 by_cases h1 : d.b.k = 1
 · exact do_case1 hne h hd hDa hU hU2 h1
 by_cases h2 : d.b.k = 2
 · exact do_case2 hne h hd hDa hU hU2 h2
 by_cases h3 : d.b.k = 3
 · exact do_case3 hne h hd hDa hU hU2 h3
 by_cases h4 : d.b.k = 4
 · exact do_case4 hne h hd hDa hU hU2 h4
 exact do_case5 h hd hDa (fun j a b e => by omega)
end
theorem both_new (f : Nat) (w : World) : ∃ M D, Both f M D (((w.alloc (.cells #[.slice none 0 0, .map none, .slice none 0 0] 77)).alloc (.cells #[.slice none 0 0, .slice none 0 0] 80)).alloc (.cells #[.slice (some ⟨w.heap.size + 1, 0, none⟩) 1 1] 83)) w.heap.size (w.heap.size + 2) [fb0] := by
 have h1 := tabIs_new f w
 have k1 := below_alloc (w.alloc (.cells #[.slice none 0 0, .map none, .slice none 0 0] 77)) (.cells #[.slice none 0 0, .slice none 0 0] 80)
 have k2 := below_alloc ((w.alloc (.cells #[.slice none 0 0, .map none, .slice none 0 0] 77)).alloc (.cells #[.slice none 0 0, .slice none 0 0] 80)) (.cells #[.slice (some ⟨w.heap.size + 1, 0, none⟩) 1 1] 83)
 have h2 := refTab_new f (w.alloc (.cells #[.slice none 0 0, .map none, .slice none 0 0] 77))
 rw [World.size_alloc] at h2
 refine ⟨_, fun g => g = w.heap.size + 1, (h1.below k1).below k2, tok_new, h2, fun g hg => ?_, by omega, by omega⟩
 subst hg
 exact ⟨by simp, by omega, by omega⟩
end
end Go.Proofs.YtimfnalpmmkndaaGreatDoor
