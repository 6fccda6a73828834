/- The document's Sign, OfInt, IsInt. -/
import Derived.Test.YtnkaimkdlpieaaaK8
import Derived.Test.YtnkaimkdlpieaaaKB
import Derived.Test.YtnkaimkdlpieaaaK12
import Derived.Test.YtnkaimkdlpieaaaKA
import Derived.Test.YtnkaimkdlpieaaaK13
import Derived.Deep.RegionHeld3
namespace Go.Proofs.Ytnkaimkdlpieaaa
set_option linter.unusedVariables false
set_option linter.unusedSimpArgs false
open Go.RowKit

theorem refOf_num (n : Int) (h0 : 0 ≤ n) (h1 : n < 18446744073709551616) (w : World) : Calls Try.prog 89 #[.int .u64 n] w fun e w' => ∃ ns, can ns ∧ Hid (val ns = n) ∧ ns.length ≤ 2 ∧ Makes w e w' ns := by
  refine (refOf_any n h0 h1 w).mono ?_
  intro e w' h
  have hc := of_can n h0 h1
  exact ⟨_, hc.1, hc.2.1, hc.2.2, h⟩

section
variable {w : World} {bx : Bool} {a1 a2 : Option Addr} {c1 c2 : Nat} {xn xd : List Int}
end

set_option maxRecDepth 100000 in
set_option maxHeartbeats 3200000 in
theorem refOfInt_any (k : Int) (h0 : -9223372036854775808 ≤ k) (h1 : k < 9223372036854775808) (w : World) : Calls Try.prog 67 #[.int .i64 k] w fun e w' => WholeNum w k e w' := by
  have R := rvar_new w
  have g := below_alloc w (.cells #[.bool false, .slice none 0 0, .slice none 0 0] 42)
  go_enter Try.func67, Try.ntmps67
  by_cases hk : k < 0
  · have hkb : decide (k < 0) = true := decide_eq_true hk
    have hw : IntKind.u64.wrap (-IntKind.u64.wrap k) = -k := by rw [IntKind.wrap_u64, IntKind.wrap_u64]; omega
    go_wp2_with fail
    generalize hA : w.alloc (.cells #[.bool false, .slice none 0 0, .slice none 0 0] 42) = v at *
    clear hA
    refine (refOf_num (-k) (by omega) (by omega) _).mono ?_
    rintro e wa ⟨ns, cn, vn, ln, x1, y1, rfl, o1, ka⟩
    go_wp2_with fail
    refine (refOne_any _).mono ?_
    rintro e wb ⟨ds, x2, y2, HD, rfl, o2, kb⟩
    have t : Below v.heap.size v wb := ka.trans (kb.mono ka.size)
    have Rb := R.below t
    have q0 := Rb.box.c0
    have q1 := Rb.box.c1
    have q2 := Rb.box.c2
    have p0 := Rb.box.f0
    have p1 := Rb.box.f1
    have p2 := Rb.box.f2
    go_wp2
    have hR3 := Rb.box.set (.bool true) (.slice x1 ns.length y1) (.slice x2 ds.length y2)
    have r0 := hR3.c0
    have r1 := hR3.c1
    have r2 := hR3.c2
    refine bodyPost_ret (v := .agg #[.bool true, .slice x1 ns.length y1, .slice x2 ds.length y2]) (by simp [results, Try.results67, go_sem, r0, r1, r2]) rfl ?_
    exact ⟨Below.set3 (g.trans (t.mono g.size)) (Nat.le_refl _) _ _ _, true, ns, ds, x1, y1, x2, y2, ⟨hkb.symm, cn, by rw [vn.out, if_pos hk], ln, HD.out⟩, rfl, (Own.set3 (o1.below kb (Nat.le_refl _)) R.lt _ _ _).mono g.size, (Own.set3 (o2.mono ka.size) R.lt _ _ _).mono g.size⟩
  · have hkb : decide (k < 0) = false := decide_eq_false hk
    go_wp2_with fail
    generalize hA : w.alloc (.cells #[.bool false, .slice none 0 0, .slice none 0 0] 42) = v at *
    clear hA
    refine (refOf_num k (by omega) (by omega) _).mono ?_
    rintro e wa ⟨ns, cn, vn, ln, x1, y1, rfl, o1, ka⟩
    go_wp2_with fail
    refine (refOne_any _).mono ?_
    rintro e wb ⟨ds, x2, y2, HD, rfl, o2, kb⟩
    have t : Below v.heap.size v wb := ka.trans (kb.mono ka.size)
    have Rb := R.below t
    have q0 := Rb.box.c0
    have q1 := Rb.box.c1
    have q2 := Rb.box.c2
    have p0 := Rb.box.f0
    have p1 := Rb.box.f1
    have p2 := Rb.box.f2
    go_wp2
    have hR3 := Rb.box.set (.bool false) (.slice x1 ns.length y1) (.slice x2 ds.length y2)
    have r0 := hR3.c0
    have r1 := hR3.c1
    have r2 := hR3.c2
    refine bodyPost_ret (v := .agg #[.bool false, .slice x1 ns.length y1, .slice x2 ds.length y2]) (by simp [results, Try.results67, go_sem, r0, r1, r2]) rfl ?_
    exact ⟨Below.set3 (g.trans (t.mono g.size)) (Nat.le_refl _) _ _ _, false, ns, ds, x1, y1, x2, y2, ⟨hkb.symm, cn, by rw [vn.out, if_neg (by omega)], ln, HD.out⟩, rfl, (Own.set3 (o1.below kb (Nat.le_refl _)) R.lt _ _ _).mono g.size, (Own.set3 (o2.mono ka.size) R.lt _ _ _).mono g.size⟩

theorem one_cmp {ds os : List Int} (ho : os = [1]) (cd : can ds) : cmpI (val ds) (val os) = 0 ↔ ds = [1] := by
  subst ho
  rw [cmpI_zero', one_val]
  constructor
  · intro h
    exact can_inj cd can_one (by rw [h, one_val])
  · rintro rfl
    exact one_val
section
variable {w : World} {b : Bool} {a1 a2 : Option Addr} {c1 c2 : Nat} {ns ds : List Int}
end
end Go.Proofs.Ytnkaimkdlpieaaa

/- The document's Int, Num, Ints. -/
namespace Go.Proofs.Ytnkaimkdlpieaaa
set_option linter.unusedVariables false
set_option linter.unusedSimpArgs false
open Go.RowKit

theorem wpList_append_at {P : Program} (w : World) {ops : Array Oper} {rest : List Oper} {o : Oper} {a : Act} {Q : Exit → Act → World → Prop}
    (hg : o.guard = none) (s x : Operand) (t : TypeId) (hop : o.op = Op.call { callee := Callee.builtin Builtin.append, args := #[s, x], argTypes := #[t, t] })
    (base : Nat) (e : TypeId) (i : TypeInfo) (z : Value) (size bytes : Nat) (h1 : P.underlying t = some (.slice e)) (h2 : P.info? e = some i) (h3 : i.zero = some z) (h4 : i.size = size) (h5 : i.bytes = bytes) (h6 : z.cells.size = size) (h7 : 0 < size)
    (v : Value) (k : Nat) (xs : List Value) (hs : a.eval s = v) (hown : w.ownsRow base e size v k xs) (ad : Addr) (m c : Nat) (news : List Value) (hx : a.eval x = .slice (some ad) m c) (hn : news.length = m * size)
    (hc : ∀ j u, news[j]? = some u → w.cell? (ad.add j) = some u) (h1c : ∀ u ∈ news, u.oneCell' = true) (b1 : k + m ≤ maxLen) (b2 : (k + m) * bytes ≤ 140737488355328) (b3 : base ≤ w.heap.size)
    (hK : ∀ v' w', w'.ownsRow base e size v' (k + m) (xs ++ news) → w.grownBy w' v.ownBlock → (v'.ownBlock = v.ownBlock ∨ v'.ownBlock = some w.heap.size) → wpList P ops Q rest (a.put o.dst v') w') :
    wpList P ops Q (o :: rest) a w := by
  refine wpList_plain hg fun K hK' => ?_
  obtain ⟨v', w', hrun, r1, r2, r3, r4⟩ := run_append_own_at (P := P) w base t o.type e i z size bytes h1 h2 h3 h4 h5 h6 h7 v k xs hown ad m c news hn hc h1c b1 b2 b3
  unfold Oper.wp execOp
  simp only [hop, resolve, invoke, builtin, Sem.run_bind, Sem.run_pure, Result.andThen_ok, List.map_toArray, List.map_cons, List.map_nil, hs, hx, hrun]
  exact hK' _ _ (hK v' w' r1 r2 r4)
theorem own_s2 {base B : Nat} {w : World} {v : Value} {xs : List Int} (h : Own base w v xs) (hB : B < base) (u u' : Value) : Own base ((w.setCell ⟨B, 0, none⟩ u).setCell ⟨B, 1, none⟩ u') v xs := by
  have e : v.ownBlock ≠ some B := ownBlock_ne h hB
  exact (h.setCell (a := ⟨B, 0, none⟩) e _).setCell (a := ⟨B, 1, none⟩) e _
/-- A scalar of a number of its own: its one item lies in block k. -/
def ScalarW (w : World) (q : Int) (e : Ending) (w' : World) : Prop := ∃ k b ns ds z1 u1 z2 u2, Hid (WholeIs q b ns ds) ∧ e = .returned (.agg #[.slice none 0 0, .slice (some ⟨k, 0, none⟩) 1 1]) ∧ w.heap.size ≤ k ∧ BoxA w' k 45 #[.int .u8 1, .bool b, .slice z1 ns.length u1, .slice z2 ds.length u2, .int .i32 0, .slice none 0 0] ∧ Own w.heap.size w' (.slice z1 ns.length u1) ns ∧ Own w.heap.size w' (.slice z2 ds.length u2) ds ∧ Below w.heap.size w w'
set_option maxRecDepth 100000 in
set_option maxHeartbeats 6400000 in
theorem refNum3_any {w : World} {b : Bool} {a1 a2 : Option Addr} {c1 c2 : Nat} {ns ds : List Int} (h1 : Rd w.heap.size w (.slice a1 ns.length c1) ns) (h2 : Rd w.heap.size w (.slice a2 ds.length c2) ds) (l1 : ns.length ≤ 100) (l2 : ds.length ≤ 100) :
    Calls Try.prog 66 #[.agg #[.bool b, .slice a1 ns.length c1, .slice a2 ds.length c2]] w fun e w' => ∃ k z1 u1 z2 u2, e = .returned (.agg #[.slice none 0 0, .slice (some ⟨k, 0, none⟩) 1 1]) ∧ w.heap.size ≤ k ∧ BoxA w' k 45 #[.int .u8 1, .bool b, .slice z1 ns.length u1, .slice z2 ds.length u2, .int .i32 0, .slice none 0 0] ∧ Own w.heap.size w' (.slice z1 ns.length u1) ns ∧ Own w.heap.size w' (.slice z2 ds.length u2) ds ∧ Below w.heap.size w w' := by
  have k0 := below_alloc w (.cells #[.bool b, .slice a1 ns.length c1, .slice a2 ds.length c2] 42)
  have X0 := boxA_new w #[.bool b, .slice a1 ns.length c1, .slice a2 ds.length c2] 42
  have k1 := below_alloc (w.alloc (.cells #[.bool b, .slice a1 ns.length c1, .slice a2 ds.length c2] 42)) (.cells #[.slice none 0 0, .slice none 0 0] 25)
  have R := boxA_new (w.alloc (.cells #[.bool b, .slice a1 ns.length c1, .slice a2 ds.length c2] 42)) #[.slice none 0 0, .slice none 0 0] 25
  rw [World.size_alloc] at R
  have X := X0.below k1 (by simp)
  have g : Below w.heap.size w _ := k0.trans (k1.mono (by simp))
  have sv : ((w.alloc (.cells #[.bool b, .slice a1 ns.length c1, .slice a2 ds.length c2] 42)).alloc (.cells #[.slice none 0 0, .slice none 0 0] 25)).heap.size = w.heap.size + 1 + 1 := by simp
  have C := refCopy_any (b := b) ((h1.below g).mono (B' := ((w.alloc (.cells #[.bool b, .slice a1 ns.length c1, .slice a2 ds.length c2] 42)).alloc (.cells #[.slice none 0 0, .slice none 0 0] 25)).heap.size) (by simp; omega)) ((h2.below g).mono (by simp; omega)) (by omega) (by omega)
  have z0 := X.cell 0 rfl
  have z1 := X.cell 1 rfl
  have z2 := X.cell 2 rfl
  clear h1 h2
  go_enter Try.func66, Try.ntmps66
  go_wp2_with fail
  generalize hA : (w.alloc (.cells #[.bool b, .slice a1 ns.length c1, .slice a2 ds.length c2] 42)).alloc (.cells #[.slice none 0 0, .slice none 0 0] 25) = v at *
  clear hA z0 z1 z2 k0 k1 X0
  refine C.mono ?_
  rintro e w1 ⟨q1, y1, v1, y2, v2, rfl, o1, o2⟩
  clear C
  have s1 := q1.size
  have kx := below_alloc w1 (.cells #[.int .u8 1, .bool b, .slice y1 ns.length v1, .slice y2 ds.length v2, .int .i32 0, .slice none 0 0] 45)
  have BX := boxA_new w1 #[.int .u8 1, .bool b, .slice y1 ns.length v1, .slice y2 ds.length v2, .int .i32 0, .slice none 0 0] 45
  have kv : Below v.heap.size v (w1.alloc (.cells #[.int .u8 1, .bool b, .slice y1 ns.length v1, .slice y2 ds.length v2, .int .i32 0, .slice none 0 0] 45)) := q1.trans (kx.mono s1)
  have p1 := o1.below kx (Nat.le_refl _)
  have p2 := o2.below kx (Nat.le_refl _)
  have R1 := R.below kv (by omega)
  have r0 := R1.cell 0 rfl
  have r1 := R1.cell 1 rfl
  have f0 := R1.frozen 0
  have f1 := R1.frozen 1
  clear o1 o2
  go_wp2
  have R4 := R1.set2 (.slice none 0 0) (.slice (some ⟨w1.heap.size, 0, none⟩) 1 1)
  have e0 := R4.cell 0 rfl
  have e1 := R4.cell 1 rfl
  refine bodyPost_ret (v := .agg #[.slice none 0 0, .slice (some ⟨w1.heap.size, 0, none⟩) 1 1]) (by simp [results, Try.results66, go_sem, e0, e1]) rfl ?_
  have hne : w.heap.size + 1 ≠ w1.heap.size := by omega
  refine ⟨w1.heap.size, y1, v1, y2, v2, rfl, by omega, boxA_o (boxA_o BX (p := ⟨w.heap.size + 1, 0, none⟩) hne _) (p := ⟨w.heap.size + 1, 1, none⟩) hne _, ?_, ?_, Below.set2 (g.trans (kv.mono (by omega))) (by omega) _ _⟩
  · exact (own_s2 (p1.mono (base' := v.heap.size) (by omega)) (by omega) _ _).mono (by omega)
  · exact (own_s2 (p2.mono (base' := v.heap.size) (by omega)) (by omega) _ _).mono (by omega)
set_option maxRecDepth 100000 in
set_option maxHeartbeats 6400000 in
theorem refInt3_any (w : World) (q : Int) (hq0 : -9223372036854775808 ≤ q) (hq1 : q < 9223372036854775808) : Calls Try.prog 40 #[.int .i64 q] w fun e w' => ScalarW w q e w' := by
  have R := boxA_new w #[.slice none 0 0, .slice none 0 0] 25
  have g := below_alloc w (.cells #[.slice none 0 0, .slice none 0 0] 25)
  have s0 : w.heap.size < (w.alloc (.cells #[.slice none 0 0, .slice none 0 0] 25)).heap.size := by simp
  go_enter Try.func40, Try.ntmps40
  go_wp2_with fail
  generalize hA : w.alloc (.cells #[.slice none 0 0, .slice none 0 0] 25) = v at *
  clear hA
  refine (refOfInt_any q hq0 hq1 _).mono ?_
  rintro e w1 ⟨k1, bo, on, od, o1, o2, o3, o4, HO, rfl, oo, oe⟩
  have hw := HO.out
  have l1 : on.length ≤ 100 := by have := hw.2.2.2.1; omega
  have l2 : od.length ≤ 100 := by rw [hw.2.2.2.2]; simp
  have C := refNum3_any (b := bo) oo.rd oe.rd l1 l2
  clear hw l1 l2
  go_wp2_with fail
  refine C.mono ?_
  rintro e w2 ⟨k, z1, u1, z2, u2, rfl, hk, hB, p1, p2, k2⟩
  clear C oo oe
  have s1 := k1.size
  have t2 : Below v.heap.size v w2 := k1.trans (k2.mono s1)
  have R3 := R.below t2 s0
  have q0 := R3.cell 0 rfl
  have q1 := R3.cell 1 rfl
  have f0 := R3.frozen 0
  have f1 := R3.frozen 1
  go_wp2
  have R4 := R3.set2 (.slice none 0 0) (.slice (some ⟨k, 0, none⟩) 1 1)
  have r0 := R4.cell 0 rfl
  have r1 := R4.cell 1 rfl
  refine bodyPost_ret (v := .agg #[.slice none 0 0, .slice (some ⟨k, 0, none⟩) 1 1]) (by simp [results, Try.results40, go_sem, r0, r1]) rfl ?_
  have hne : w.heap.size ≠ k := by omega
  refine ⟨k, bo, on, od, z1, u1, z2, u2, HO, rfl, by omega, boxA_o (boxA_o hB (p := ⟨w.heap.size, 0, none⟩) hne _) (p := ⟨w.heap.size, 1, none⟩) hne _, ?_, ?_, Below.set2 (g.trans (t2.mono (by omega))) (Nat.le_refl _) _ _⟩
  · exact (own_s2 (p1.mono (base' := v.heap.size) (by omega)) s0 _ _).mono (by omega)
  · exact (own_s2 (p2.mono (base' := v.heap.size) (by omega)) s0 _ _).mono (by omega)
set_option maxRecDepth 100000 in
set_option maxHeartbeats 16000000 in
theorem refInts3_any {w : World} {D : Nat → Prop} {a : Option Addr} {c : Nat} {l : List Int} (h : RdN D w (.slice a l.length c) l) (hD : ∀ g, D g → g < w.heap.size) :
    Calls Try.prog 20 #[.slice a l.length c] w fun e w' => ∃ z1 m1 u1 z2 m2 u2, e = .returned (.agg #[.slice z1 m1 u1, .slice z2 m2 u2]) ∧ ArV 1 (Fr w.heap.size w'.heap.size) w' (.slice z1 m1 u1) (.slice z2 m2 u2) (vecT (wholeT 0) (l.map wholeT)) ∧ Below w.heap.size w w' := by
  have R := boxA_new w #[.slice none 0 0, .slice none 0 0] 25
  have g := below_alloc w (.cells #[.slice none 0 0, .slice none 0 0] 25)
  have s0 : w.heap.size < (w.alloc (.cells #[.slice none 0 0, .slice none 0 0] 25)).heap.size := by simp
  have H : Hid (RdN D w (.slice a l.length c) l) := h
  have HD : Hid (∀ g, D g → g < w.heap.size) := hD
  have hin := h.1
  have HI : Hid (∀ x ∈ l, -9223372036854775808 ≤ x ∧ x ≤ 9223372036854775807) := hin
  have bd := h.bounds
  obtain ⟨i0, hi0, hz0, hz1, hz2⟩ := info_parts info_item3
  clear h hD hin
  go_enter Try.func20, Try.ntmps20
  go_wp2_with fail
  generalize hA : w.alloc (.cells #[.slice none 0 0, .slice none 0 0] 25) = v at *
  clear hA
  go_loopw [3, 4] (fun ov iv wr => ∃ (i : Nat) (a3 : Option Addr) (c3 : Nat), iv = .int .i64 i ∧ ov = .slice a3 i c3 ∧ i ≤ l.length ∧ i ≤ 4096 ∧ RowOf 45 6 (ElI 0 (l.map wholeT)) v.heap.size wr (.slice a3 i c3) i ∧ Below v.heap.size v wr) (fun _ iv _ => l.length - (intOf iv).toNat)
  case atStart => exact ⟨0, none, 0, rfl, rfl, Nat.zero_le _, Nat.zero_le _, RowOf.nil, Below.refl _ _⟩
  case round =>
    obtain ⟨i, a3, c3, rfl, rfl, hil, hi4, hrow, hbr⟩ := hrel
    have sb := hbr.size
    have hbw : Below w.heap.size w wr := g.trans (hbr.mono (by omega))
    by_cases hlt : i < l.length ∧ i < 4096
    · obtain ⟨hlt, hl4⟩ := hlt
      have d1 : ((i : Int) < (l.length : Int)) = True := by simp; omega
      have d2 : ((i : Int) < 4096) = True := by simp; omega
      obtain ⟨g1, o1, rfl, hg1, hc1⟩ := H.out.ptr (by omega)
      have E := (hbw.cell (p := ⟨g1, o1 + i, none⟩) (HD.out g1 hg1)).trans (hc1 i hlt)
      obtain ⟨q, hq⟩ : ∃ q, l.getD i 0 = q := ⟨_, rfl⟩
      rw [hq] at E
      have HQ : Hid ((l.map wholeT).getD i tr0 = wholeT q) := by
        unfold Hid
        rw [List.getD_eq_getElem?_getD, List.getElem?_map, ← hq, List.getD_eq_getElem?_getD, List.getElem?_eq_getElem hlt]
        rfl
      have hqi : -9223372036854775808 ≤ q ∧ q ≤ 9223372036854775807 := HI.out q (by rw [← hq, List.getD_eq_getElem?_getD, List.getElem?_eq_getElem hlt]; exact List.getElem_mem hlt)
      obtain ⟨hq0, hq1⟩ := hqi
      obtain ⟨xs, ho, he⟩ := hrow
      have HO : Hid (wr.ownsRow v.heap.size 45 6 (.slice a3 i c3) i xs) := ho
      have HE : Hid (∀ j, j < i → ElI 0 (l.map wholeT) (FrR v.heap.size wr (.slice a3 i c3)) wr (cellsOf xs 6 j) j) := he
      clear hc1 hq ho he
      go_wp2_with fail
      refine (refInt3_any _ q hq0 (by omega)).mono ?_
      rintro e w1 ⟨k, b, ns, ds, z1, u1, z2, u2, HW, rfl, hk, hB, p1, p2, k1⟩
      have s1 := k1.size
      have m0 := hB.cell 0 rfl
      have m1 := hB.cell 1 rfl
      have m2 := hB.cell 2 rfl
      have m3 := hB.cell 3 rfl
      have m4 := hB.cell 4 rfl
      have m5 := hB.cell 5 rfl
      have hfl : (Instr.field 25 (.agg #[.slice none 0 0, .slice (some ⟨k, 0, none⟩) 1 1]) 1).run Try.prog w1 = .ok (.slice (some ⟨k, 0, none⟩) 1 1) w1 := by kernel_rfl
      have hT : numT b ns ds = wholeT q := wholeIs_eq hq0 (by omega) HW.out
      have hit : IsIt 0 (Fr wr.heap.size w1.heap.size) w1 ⟨1, b, z1, ns.length, u1, z2, ds.length, u2, 0, none, 0, 0⟩ (wholeT q) := by
        rw [← hT]
        exact isIt_num (t := numT b ns ds) rfl rfl rfl p1 p2
      have HIt : Hid (IsIt 0 (Fr wr.heap.size w1.heap.size) w1 ⟨1, b, z1, ns.length, u1, z2, ds.length, u2, 0, none, 0, 0⟩ (wholeT q)) := hit
      clear hit hT p1 p2 HW hB
      go_wp2_with (at_builtin; refine wpList_append_at _ rfl _ _ 23 rfl v.heap.size 45 i0 (.agg #[.int .u8 0, .bool false, .slice none 0 0, .slice none 0 0, .int .i32 0, .slice none 0 0]) 6 96 Try.underlying23 hi0 hz0 hz1 hz2 rfl (by decide) _ i xs rfl (row_below HO.out k1 (Nat.le_refl _) |>.alloc _) ⟨w1.heap.size, 0, none⟩ 1 1 [.int .u8 1, .bool b, .slice z1 ns.length u1, .slice z2 ds.length u2, .int .i32 0, .slice none 0 0] rfl rfl (cells_new w1 #[.int .u8 1, .bool b, .slice z1 ns.length u1, .slice z2 ds.length u2, .int .i32 0, .slice none 0 0] _) (by intro u hu; simp at hu; rcases hu with rfl | rfl | rfl | rfl | rfl | rfl <;> rfl) (by unfold maxLen; omega) (by omega) (by simp; omega) ?_)
      intro v' w3 hr hgr hvo
      obtain ⟨a4, c4, rfl⟩ := row_form3 hr
      have hel : ElI 0 (l.map wholeT) (fun g => wr.heap.size ≤ g ∧ g < w1.heap.size) w1 (fun k => ([.int .u8 1, .bool b, .slice z1 ns.length u1, .slice z2 ds.length u2, .int .i32 0, .slice none 0 0] : List Value)[k]?) i := by
        unfold ElI
        rw [HQ.out]
        have hi := HIt.out
        exact ⟨z1, u1, z2, u2, none, 0, ⟨by rw [← hi.k]; rfl, by rw [← hi.b]; rfl, by rw [← hi.n1]; rfl, by rw [← hi.n2]; rfl, by rw [← hi.c]; rfl, by rw [← hi.n3]; rfl⟩, hi.v⟩
      have t1 := RowOf.push (elI_ok 0 (l.map wholeT)) HO.out HE.out sb k1 rfl hel hr hgr (by rw [World.size_alloc]; exact hvo)
      have hb3 : Below v.heap.size v w3 := ((hbr.trans (k1.mono sb)).trans ((below_alloc w1 (.cells #[.int .u8 1, .bool b, .slice z1 ns.length u1, .slice z2 ds.length u2, .int .i32 0, .slice none 0 0] 45)).mono (by omega))).grown hgr (by simp; omega) (fun k e => by have := (row_own HO.out k e).1; omega)
      have T1 : Hid (RowOf 45 6 (ElI 0 (l.map wholeT)) v.heap.size w3 (.slice a4 (i + 1) c4) (i + 1)) := t1
      clear t1 hel hr hgr hvo m0 m1 m2 m3 m4 m5 hfl
      go_wp2
      go_roundw
      case rel => exact ⟨i + 1, a4, c4, by go_num, rfl, by omega, by omega, T1.out, hb3⟩
      case measure => simp [intOf]; omega
    · have HN : Hid (i = ((l.map wholeT).take 4096).length) := by unfold Hid; rw [List.length_take, List.length_map]; omega
      have HRw : Hid (RowOf 45 6 (ElI 0 (l.map wholeT)) v.heap.size wr (.slice a3 i c3) i) := hrow
      clear hrow
      by_cases hz : i = 0
      · have HZ : Hid (i = 0) := hz
        have hl0 : ¬ ((i : Int) < (l.length : Int)) := by omega
        have hd2 : (((i : Nat) : Int) == 0) = true := by rw [beq_iff_eq]; omega
        have HL0 : Hid (l.length = 0) := by unfold Hid; omega
        clear hz hlt
        go_wp2_with fail
        refine (refInt3_any _ 0 (by omega) (by omega)).mono ?_
        rintro e w1 ⟨k, b, ns, ds, z1, u1, z2, u2, HW, rfl, hk, hB, p1, p2, k1⟩
        have s1 := k1.size
        have hfl : (Instr.field 25 (.agg #[.slice none 0 0, .slice (some ⟨k, 0, none⟩) 1 1]) 1).run Try.prog w1 = .ok (.slice (some ⟨k, 0, none⟩) 1 1) w1 := by kernel_rfl
        have hT : numT b ns ds = wholeT 0 := wholeIs_eq (by omega) (by omega) HW.out
        have hit : IsIt 0 (Fr wr.heap.size w1.heap.size) w1 ⟨1, b, z1, ns.length, u1, z2, ds.length, u2, 0, none, 0, 0⟩ (wholeT 0) := by
          rw [← hT]
          exact isIt_num (t := numT b ns ds) rfl rfl rfl p1 p2
        have HIt : Hid (IsIt 0 (Fr wr.heap.size w1.heap.size) w1 ⟨1, b, z1, ns.length, u1, z2, ds.length, u2, 0, none, 0, 0⟩ (wholeT 0)) := hit
        have HB : Hid (BoxA w1 k 45 #[.int .u8 1, .bool b, .slice z1 ns.length u1, .slice z2 ds.length u2, .int .i32 0, .slice none 0 0]) := hB
        clear hit hT p1 p2 HW hB HRw
        have kN := below_alloc w1 (.cells #[.int .i64 (i : Int)] 3)
        have BN := boxA_new w1 #[.int .i64 (i : Int)] 3
        have kv1 : Below v.heap.size v w1 := hbr.trans (k1.mono sb)
        have kvN : Below v.heap.size v (w1.alloc (.cells #[.int .i64 (i : Int)] 3)) := kv1.trans (kN.mono kv1.size)
        have RN := R.below kvN s0
        have r0 := RN.cell 0 rfl
        have r1 := RN.cell 1 rfl
        have f0 := RN.frozen 0
        have f1 := RN.frozen 1
        go_wp2
        have R4 := RN.set2 (.slice (some ⟨w1.heap.size, 0, none⟩) 1 1) (.slice (some ⟨k, 0, none⟩) 1 1)
        have e0 := R4.cell 0 rfl
        have e1 := R4.cell 1 rfl
        refine bodyPost_ret (v := .agg #[.slice (some ⟨w1.heap.size, 0, none⟩) 1 1, .slice (some ⟨k, 0, none⟩) 1 1]) (by simp [results, Try.results20, go_sem, e0, e1]) rfl ?_
        have sv1 := kv1.size
        have ev : vecT (wholeT 0) (l.map wholeT) = arrT [0] [wholeT 0] := by unfold vecT vecK; rw [if_pos (by rw [List.length_map]; exact HL0.out), ← HN.out, HZ.out]; rfl
        refine ⟨_, _, _, _, _, _, rfl, ?_, Below.set2 (g.trans (kvN.mono (by omega))) (Nat.le_refl _) _ _⟩
        rw [ev]
        have hI0 : (i : Int) = 0 := by have := HZ.out; omega
        have BN2 := boxA_o (boxA_o BN (p := ⟨w.heap.size, 0, none⟩) (show w.heap.size ≠ w1.heap.size by omega) (.slice (some ⟨w1.heap.size, 0, none⟩) 1 1)) (p := ⟨w.heap.size, 1, none⟩) (show w.heap.size ≠ w1.heap.size by omega) (.slice (some ⟨k, 0, none⟩) 1 1)
        have BK2 := boxA_o (boxA_o (HB.out.below kN HB.out.lt) (p := ⟨w.heap.size, 0, none⟩) (show w.heap.size ≠ k by omega) (.slice (some ⟨w1.heap.size, 0, none⟩) 1 1)) (p := ⟨w.heap.size, 1, none⟩) (show w.heap.size ≠ k by omega) (.slice (some ⟨k, 0, none⟩) 1 1)
        rw [hI0] at BN2 BK2 ⊢
        refine ⟨rdN_one BN2 ⟨by omega, BN2.lt⟩ (by omega) (by omega), ?_⟩
        refine ⟨_, 1, rfl, Nat.le_refl _, by omega, (fun h => by cases h), Or.inr ⟨k, 0, rfl, ⟨by omega, BK2.lt⟩, fun j hj => ?_⟩⟩
        have hj : j < 1 := hj
        obtain rfl : j = 0 := by omega
        refine itc_of (x := ⟨1, b, z1, ns.length, u1, z2, ds.length, u2, 0, none, 0, 0⟩) (HIt.out.imp ?_ ?_) BK2
        · rintro q ⟨h1, h2⟩; exact ⟨by omega, by rw [set1_size, set1_size, World.size_alloc]; omega⟩
        · rintro q ⟨h1, h2⟩
          rw [set1_other (by show ¬ w.heap.size = q; omega), set1_other (by show ¬ w.heap.size = q; omega)]
          exact (below_alloc w1 _).block q h2
      · have hd2 : (((i : Nat) : Int) == 0) = false := by rw [beq_eq_false_iff_ne]; omega
        have HZ : Hid (¬ i = 0) := hz
        have kN := below_alloc wr (.cells #[.int .i64 (i : Int)] 3)
        have BN := boxA_new wr #[.int .i64 (i : Int)] 3
        have kvN : Below v.heap.size v (wr.alloc (.cells #[.int .i64 (i : Int)] 3)) := hbr.trans (kN.mono sb)
        have RN := R.below kvN s0
        have r0 := RN.cell 0 rfl
        have r1 := RN.cell 1 rfl
        have f0 := RN.frozen 0
        have f1 := RN.frozen 1
        have hor : (¬ ((i : Int) < (l.length : Int))) ∨ (((i : Int) < (l.length : Int)) ∧ ¬ ((i : Int) < 4096)) := by omega
        clear hlt hz
        rcases hor with hor | ⟨hor, hor2⟩
        all_goals
          go_wp2
          have R4 := RN.set2 (.slice (some ⟨wr.heap.size, 0, none⟩) 1 1) (.slice a3 i c3)
          have e0 := R4.cell 0 rfl
          have e1 := R4.cell 1 rfl
          refine bodyPost_ret (v := .agg #[.slice (some ⟨wr.heap.size, 0, none⟩) 1 1, .slice a3 i c3]) (by simp [results, Try.results20, go_sem, e0, e1]) rfl ?_
          have hts : ¬ (l.map wholeT).length = 0 := by have := HN.out; have := HZ.out; rw [List.length_take] at *; omega
          have ev : vecT (wholeT 0) (l.map wholeT) = arrT [(i : Int)] ((l.map wholeT).take 4096) := by unfold vecT vecK; rw [if_neg hts, ← HN.out]
          refine ⟨_, _, _, _, _, _, rfl, ?_, Below.set2 (g.trans (kvN.mono (by omega))) (Nat.le_refl _) _ _⟩
          rw [ev]
          have BN2 := boxA_o (boxA_o BN (p := ⟨w.heap.size, 0, none⟩) (show w.heap.size ≠ wr.heap.size by omega) (.slice (some ⟨wr.heap.size, 0, none⟩) 1 1)) (p := ⟨w.heap.size, 1, none⟩) (show w.heap.size ≠ wr.heap.size by omega) (.slice a3 i c3)
          refine ⟨rdN_one BN2 ⟨by omega, BN2.lt⟩ (by omega) (by omega), ?_⟩
          have hRF := ((HRw.out.below (elI_ok 0 _) kN (Nat.le_refl _)).setCell (elI_ok 0 _) (a := ⟨w.heap.size, 0, none⟩) s0 (.slice (some ⟨wr.heap.size, 0, none⟩) 1 1)).setCell (elI_ok 0 _) (a := ⟨w.heap.size, 1, none⟩) s0 (.slice a3 i c3)
          show RowB _ ((l.map wholeT).take 4096).length (.slice a3 i c3) _
          rw [← HN.out]
          refine RowB.imp (rowB_I (D := Fr w.heap.size _) hRF (fun q h1 h2 => ⟨by omega, h2⟩)) (fun _ h => h) (fun g' o j hg' hj hc => ?_)
          have ej : (arrT [(i : Int)] ((l.map wholeT).take 4096)).kids.getD j tr0 = (l.map wholeT).getD j tr0 := by
            show ((l.map wholeT).take 4096).getD j tr0 = _
            rw [List.getD_eq_getElem?_getD, List.getElem?_take_of_lt (by omega), ← List.getD_eq_getElem?_getD]
          rw [ej]
          exact hc
end Go.Proofs.Ytnkaimkdlpieaaa

/- array.ToInts of a row of whole numbers. -/
namespace Go.Proofs.Ytnkaimkdlpieaaa
set_option linter.unusedVariables false
set_option linter.unusedSimpArgs false
open Go.RowKit

theorem tells_whole {q n : Int} {ok : Bool} (h0 : -9223372036854775808 ≤ q) (h1 : q < 9223372036854775808) (h : TellsInt (wholeT q) n ok) : n = q ∧ ok = true := by
  have hw := wholeT_is h0 h1
  rcases h with ⟨_, h⟩ | ⟨hk, _⟩
  · have hsg := hw.sg.1
    rcases h with ⟨h1', h2, h3, h4, h5⟩ | ⟨h1', h2, h3⟩
    · exact ⟨h5.trans hsg, h1'⟩
    · refine absurd ⟨⟨hw.right, hw.2.2.2.2⟩, ?_, ?_⟩ h3
      · rw [hsg]; exact h0
      · rw [hsg]; exact h1
  · exact absurd rfl hk
theorem rdN_own {W : World} {Z : Nat} {a : Option Addr} {c : Nat} {l : List Int} (hin : ∀ x ∈ l, -9223372036854775808 ≤ x ∧ x ≤ 9223372036854775807) (h : W.ownsRow Z 3 1 (.slice a l.length c) l.length (l.map (Value.int .i64))) : RdN (Fr Z W.heap.size) W (.slice a l.length c) l := by
  have hrow := h
  obtain ⟨_, h | ⟨g, cap, cur, hv, hg, hh, h2, h3, _, _⟩⟩ := h
  · obtain ⟨e1, e2⟩ := h
    obtain ⟨rfl, _, rfl⟩ := Value.slice.inj e1
    exact ⟨hin, none, 0, rfl, by omega, by omega, fun _ => rfl, Or.inl e2⟩
  · obtain ⟨rfl, _, rfl⟩ := Value.slice.inj hv
    refine ⟨hin, _, _, rfl, h2, by unfold maxLen at h3; omega, (fun h => by cases h), Or.inr ⟨g, 0, rfl, ⟨hg, lt_of_block hh⟩, fun j hj => ?_⟩⟩
    have := hrow.cellAt j (by omega)
    rw [getD_map_i64 l j hj] at this
    rw [Nat.zero_add]; exact this
section
variable {D : Nat → Prop} {f : Nat} {W : World} {x1 : Option Addr} {n1 y1 : Nat} {x2 : Option Addr} {n2 y2 : Nat} {l : List Int}
set_option maxRecDepth 100000 in
set_option maxHeartbeats 16000000 in
theorem toInts_vec (hD : ∀ g, D g → g < W.heap.size) (hin : ∀ x ∈ l, -9223372036854775808 ≤ x ∧ x ≤ 9223372036854775807) (h : ArV (f + 1) D W (.slice x1 n1 y1) (.slice x2 n2 y2) (vecT (wholeT 0) (l.map wholeT))) :
    Calls Try.prog 19 #[.agg #[.slice x1 n1 y1, .slice x2 n2 y2]] W fun e w' => ∃ a c, e = .returned (.tuple #[.slice a (l.take 4096).length c, .bool true]) ∧ RdN (Fr W.heap.size w'.heap.size) w' (.slice a (l.take 4096).length c) (l.take 4096) ∧ Below W.heap.size W w' := by
  have hall : ∀ t ∈ l.map wholeT, ∀ M, measI M t = some (0, 0) := fun t ht M => by
    obtain ⟨q, hq, rfl⟩ := List.mem_map.1 ht
    exact whole_meas M (hin q hq).1 (by have := (hin q hq).2; omega)
  have hm : measF 16 (vecT (wholeT 0) (l.map wholeT)) = some (1, ((vecT (wholeT 0) (l.map wholeT)).kids.length : Int)) := vec_meas (L := 15) (whole_meas _ (by omega) (by omega)) (fun t ht => hall t ht _)
  have HM : Hid ((measF 16 (vecT (wholeT 0) (l.map wholeT))).isSome = true) := by unfold Hid; rw [hm]; rfl
  have HIn : Hid (∀ x ∈ l, -9223372036854775808 ≤ x ∧ x ≤ 9223372036854775807) := hin
  have en : n1 = 1 := h.1.len
  subst en
  have e2 := h.2.len
  have hl4 : (l.take 4096).length ≤ 4096 := by rw [List.length_take]; omega
  have hsz : sizeF (vecT (wholeT 0) (l.map wholeT)).ns = (((((l.map wholeT).take 4096).length : Nat) : Int), 0) := size_one (by omega) (by rw [List.length_take]; omega)
  have hlm : ((l.map wholeT).take 4096).length = (l.take 4096).length := by rw [List.length_take, List.length_map, List.length_take]
  rw [hlm] at hsz
  have HSz : Hid (sizeF (vecT (wholeT 0) (l.map wholeT)).ns = ((((l.take 4096).length : Nat) : Int), 0)) := hsz
  have H : Hid (ArV (f + 1) D W (.slice x1 1 y1) (.slice x2 n2 y2) (vecT (wholeT 0) (l.map wholeT))) := h
  have HD : Hid (∀ g, D g → g < W.heap.size) := hD
  have HK : Hid (n2 = (vecT (wholeT 0) (l.map wholeT)).kids.length) := e2
  have k0 := below_alloc W (.cells #[.slice x1 1 y1, .slice x2 n2 y2] 25)
  have X0 := boxA_new W #[.slice x1 1 y1, .slice x2 n2 y2] 25
  have s0 : W.heap.size < (W.alloc (.cells #[.slice x1 1 y1, .slice x2 n2 y2] 25)).heap.size := by simp
  have z0 := X0.cell 0 rfl
  have z1 := X0.cell 1 rfl
  obtain ⟨i0, hi0, hz0, hz1, hz2⟩ := info_parts info_int3
  clear h hD hall hm hin hsz hlm e2
  go_enter Try.func19, Try.ntmps19
  go_wp2_with fail
  generalize hA : W.alloc (.cells #[.slice x1 1 y1, .slice x2 n2 y2] 25) = v at *
  clear hA
  have C1 := right3_any (fun g hg => by have := HD.out g hg; omega) (H.out.agree (Agree.of k0 HD.out))
  rw [HM.out] at C1
  refine C1.mono ?_
  rintro e w1 ⟨rfl, q1⟩
  clear C1 z0 z1
  have X1 := X0.below q1 s0
  have l1 := X1.lt
  have k1 : Below W.heap.size W w1 := k0.trans (q1.mono (by omega))
  have v0 := X1.cell 0 rfl
  have v1 := X1.cell 1 rfl
  have C2 := isEmpty3_any (fun g hg => by have := HD.out g hg; omega) (H.out.agree (Agree.of k1 HD.out))
  rw [HSz.out] at C2
  simp only [] at C2
  go_wp2_with fail
  refine C2.mono ?_
  rintro e w2 ⟨rfl, q2⟩
  clear C2 v0 v1
  have X2 := X1.below q2 l1
  have l2 := X2.lt
  have k2 : Below W.heap.size W w2 := k1.trans (q2.mono (by omega))
  by_cases hz : (l.take 4096).length = 0
  · have hd : decide ((((l.take 4096).length : Nat) : Int) = 0) = true := decide_eq_true (by omega)
    have HZ : Hid ((l.take 4096).length = 0) := hz
    rw [hd]
    clear hd hz
    go_wp2
    go_ret2
    refine ⟨none, 0, by rw [HZ.out]; rfl, ?_, k2⟩
    have e : l.take 4096 = [] := List.eq_nil_of_length_eq_zero HZ.out
    rw [e]
    exact ⟨(fun x h => by cases h), none, 0, rfl, Nat.le_refl _, by omega, fun _ => rfl, Or.inl rfl⟩
  have hd : decide ((((l.take 4096).length : Nat) : Int) = 0) = false := decide_eq_false (by omega)
  rw [hd]
  have hts : ¬ (l.map wholeT).length = 0 := by rw [List.length_map]; intro h0; rw [List.length_take] at hz; omega
  have hkids : (vecT (wholeT 0) (l.map wholeT)).kids = (l.map wholeT).take 4096 := by show vecK _ _ = _; unfold vecK; rw [if_neg hts]
  obtain ⟨m, hm⟩ : ∃ m, (l.take 4096).length = m := ⟨_, rfl⟩
  have hn2 : n2 = m := by have := HK.out; rw [hkids] at this; rw [this, ← hm, List.length_take, List.length_map, List.length_take]
  subst hn2
  have HMl : Hid ((l.take 4096).length = n2) := hm
  have hm4 : n2 ≤ 4096 := by omega
  have HKids : Hid (∀ j, j < n2 → (vecT (wholeT 0) (l.map wholeT)).kids.getD j tr0 = wholeT ((l.take 4096).getD j 0)) := by
    intro j hj
    rw [hkids]
    have hjl : j < l.length := by rw [← hm, List.length_take] at hj; omega
    rw [List.getD_eq_getElem?_getD, List.getElem?_take_of_lt (by omega), List.getElem?_map, List.getElem?_eq_getElem hjl, List.getD_eq_getElem?_getD, List.getElem?_take_of_lt (by omega), List.getElem?_eq_getElem hjl]
    rfl
  have hpos : 0 < n2 := by omega
  clear hd hz hts hkids hm
  have u1 := X2.cell 1 rfl
  go_wp2_with fail
  go_loopw [4, 23] (fun ov iv wr => ∃ (i : Nat) (a : Option Addr) (c : Nat), iv = .int .i64 i ∧ ov = .slice a i c ∧ i ≤ n2 ∧ wr.ownsRow W.heap.size 3 1 (.slice a i c) i (((l.take 4096).take i).map (Value.int .i64)) ∧ Below W.heap.size W wr) (fun _ iv _ => n2 - (intOf iv).toNat)
  case atStart => exact ⟨0, none, 0, rfl, rfl, Nat.zero_le _, World.ownsRow_nil _ _ _ _, k2⟩
  case round =>
    obtain ⟨i, a, c, rfl, rfl, hil, ho, hbr⟩ := hrel
    have sb := hbr.size
    by_cases hlt : i < n2
    · have hR := H.out.2
      have hcell : ∃ g o, x2 = some ⟨g, o, none⟩ ∧ D g ∧ ∀ j, j < n2 → ItC (ArV f D W) D W g (o + j * 6) ((vecT (wholeT 0) (l.map wholeT)).kids.getD j tr0) := by
        have := HK.out
        rw [← this] at hR
        exact RowB.ptr hR hpos
      obtain ⟨g1, o1, rfl, hg1, hc1⟩ := hcell
      obtain ⟨b1, d1, b2, d2, b3, d3, ⟨e0, e1, e2, e3, e4, e5⟩, hv⟩ := hc1 i hlt
      have hk := HKids.out i hlt
      have lg := HD.out g1 hg1
      obtain ⟨q, hq⟩ : ∃ q, (l.take 4096).getD i 0 = q := ⟨_, rfl⟩
      rw [hq] at hk
      have hqm : q ∈ l := by
        have hjl : i < (l.take 4096).length := by have := HMl.out; omega
        rw [← hq, List.getD_eq_getElem?_getD, List.getElem?_eq_getElem hjl]
        exact List.mem_of_mem_take (List.getElem_mem hjl)
      obtain ⟨hq0, hq1⟩ := HIn.out q hqm
      obtain ⟨t, ht⟩ : ∃ t, (vecT (wholeT 0) (l.map wholeT)).kids.getD i tr0 = t := ⟨_, rfl⟩
      rw [ht] at e0 e1 e2 e3 e4 e5 hv hk
      have HT : Hid (t = wholeT q) := hk
      have HQ : Hid ((l.take 4096).take i ++ [q] = (l.take 4096).take (i + 1)) := by unfold Hid; rw [← hq]; exact pre_step (by have := HMl.out; omega)
      have E0 := (hbr.cell (p := ⟨g1, o1 + i * 6, none⟩) lg).trans e0
      have E1 := (hbr.cell (p := ⟨g1, o1 + i * 6 + 1, none⟩) lg).trans e1
      have E2 := (hbr.cell (p := ⟨g1, o1 + i * 6 + 2, none⟩) lg).trans e2
      have E3 := (hbr.cell (p := ⟨g1, o1 + i * 6 + 3, none⟩) lg).trans e3
      have E4 := (hbr.cell (p := ⟨g1, o1 + i * 6 + 4, none⟩) lg).trans e4
      have E5 := (hbr.cell (p := ⟨g1, o1 + i * 6 + 5, none⟩) lg).trans e5
      have HV : Hid (ItV (ArV f D W) D W b1 d1 b2 d2 b3 d3 t) := hv
      clear hc1 e0 e1 e2 e3 e4 e5 hv hk ht hq hqm hR
      have kx := below_alloc wr (.cells #[.int .u8 t.k, .bool t.b, .slice b1 t.ns.length d1, .slice b2 t.ds.length d2, .int .i32 t.c, .slice b3 t.kids.length d3] 45)
      have BX := boxA_new wr #[.int .u8 t.k, .bool t.b, .slice b1 t.ns.length d1, .slice b2 t.ds.length d2, .int .i32 t.c, .slice b3 t.kids.length d3] 45
      have ho1 := ho.alloc (.cells #[.int .u8 t.k, .bool t.b, .slice b1 t.ns.length d1, .slice b2 t.ds.length d2, .int .i32 t.c, .slice b3 t.kids.length d3] 45)
      have hb1 := hbr.trans (kx.mono sb)
      have m0 := BX.cell 0 rfl
      have m1 := BX.cell 1 rfl
      have m2 := BX.cell 2 rfl
      have m3 := BX.cell 3 rfl
      have m4 := BX.cell 4 rfl
      have m5 := BX.cell 5 rfl
      have C := whole_any (fun g hg => by have := HD.out g hg; have := hb1.size; omega) (HV.out.agree (Agree.of hb1 HD.out))
      clear ho hbr
      go_wp2_with fail
      refine C.mono ?_
      rintro e w3 ⟨n, ok, rfl, HTI, k3⟩
      have hno := tells_whole hq0 (by omega) (show TellsInt (wholeT q) n ok by rw [← HT.out]; exact HTI.out)
      obtain ⟨rfl, rfl⟩ := hno
      clear C m0 m1 m2 m3 m4 m5 BX HTI HT
      have ho2 := row_below ho1 k3 (Nat.le_refl _)
      have hbb := hb1.trans (k3.mono hb1.size)
      have sz2 := hbb.size
      clear ho1 hb1 kx
      go_wp2_with (at_builtin; refine wpList_append_own _ rfl _ _ 22 rfl W.heap.size 3 i0 (.int .i64 0) 1 8 Try.underlying22 hi0 hz0 hz1 hz2 rfl (by decide) _ i (((l.take 4096).take i).map (Value.int .i64)) rfl (ho2.alloc _) ⟨w3.heap.size, 0, none⟩ 1 1 [.int .i64 n] rfl rfl (cells_new w3 #[.int .i64 n] _) (by intro u hu; simp at hu; subst hu; rfl) (by unfold maxLen; omega) (by omega) (by simp; omega) ?_)
      intro v' w4 hown hgr _
      obtain ⟨a4, c4, rfl⟩ := row_form3 hown
      have hrow : ∀ k, (Value.slice a i c).ownBlock = some k → W.heap.size ≤ k := fun k e => (row_own ho2 k e).1
      have hb4 : Below W.heap.size W w4 := (hbb.trans ((below_alloc w3 (.cells #[.int .i64 n] 3)).mono sz2)).grown hgr (by simp; omega) hrow
      have HO4 : Hid (w4.ownsRow W.heap.size 3 1 (.slice a4 (i + 1) c4) (i + 1) (((l.take 4096).take (i + 1)).map (Value.int .i64))) := by
        unfold Hid
        rw [← HQ.out, List.map_append]
        simp only [List.map_take, List.map_cons, List.map_nil]
        exact hown
      clear hown hgr ho2
      go_wp2
      go_roundw
      case rel => exact ⟨i + 1, a4, c4, by go_num, rfl, by omega, HO4.out, hb4⟩
      case measure => simp [intOf]; omega
    · obtain rfl : i = n2 := by omega
      have HO : Hid (RdN (Fr W.heap.size wr.heap.size) wr (.slice a i c) (l.take 4096)) := by
        rw [List.take_of_length_le (by have := HMl.out; omega)] at ho
        have := rdN_own (l := l.take 4096) (a := a) (c := c) (fun x hx => HIn.out x (List.mem_of_mem_take hx)) (by rw [HMl.out]; exact ho)
        rw [HMl.out] at this
        exact this
      clear ho
      go_wp2
      go_ret2
      exact ⟨a, c, by rw [HMl.out]; rfl, by rw [HMl.out]; exact HO.out, hbr⟩
end
end Go.Proofs.Ytnkaimkdlpieaaa

/- ArrayInts' walk. -/
namespace Go.Proofs.Ytnkaimkdlpieaaa
set_option linter.unusedVariables false
set_option linter.unusedSimpArgs false
open Go.RowKit

def KInts (u : World) (t : Tr) (a0 : Option Addr) (ln c0 : Nat) : Prop := Hid (∀ w', Below u.heap.size u w' → Calls Try.prog 20 #[.slice a0 ln c0] w' fun e w'' => ∃ s1 e1 f1 s2 e2 f2, e = .returned (.agg #[.slice s1 e1 f1, .slice s2 e2 f2]) ∧ ArV 1 (Fr w'.heap.size w''.heap.size) w'' (.slice s1 e1 f1) (.slice s2 e2 f2) t ∧ Below w'.heap.size w' w'')
/-- Same of what was there with something new. -/
def KSame (u : World) (t : Tr) (z1 : Option Addr) (m1 u1 : Nat) (z2 : Option Addr) (m2 u2 : Nat) : Prop := Hid (∀ (w' : World) (s1 : Option Addr) (e1 f1 : Nat) (s2 : Option Addr) (e2 f2 B : Nat), Below u.heap.size u w' → ArV 1 (Fr B w'.heap.size) w' (.slice s1 e1 f1) (.slice s2 e2 f2) t →
  Calls Try.prog 17 #[.agg #[.slice z1 m1 u1, .slice z2 m2 u2], .agg #[.slice s1 e1 f1, .slice s2 e2 f2]] w' fun e w'' => e = .returned (.bool true) ∧ Below w'.heap.size w' w'')
set_option maxRecDepth 100000 in
set_option maxHeartbeats 16000000 in
theorem ints_small {u : World} {ba ln c0 cb m1 u1 m2 u2 : Nat} {t : Tr} {a0 ab z1 z2 : Option Addr} {Q : Exit → Act → World → Prop} {t1 t2 t6 t7 t8 t9 t10 t11 t12 t13 t14 t15 t16 t17 t18 t19 t20 t21 t22 t23 t24 t25 t26 t27 t28 t29 t30 t31 t32 t33 t34 t35 t36 t37 t38 t39 t40 t41 t42 t43 t44 t45 t46 t47 t48 t49 t50 t51 t52 t53 t54 t55 t56 t57 t58 t59 t60 t61 t62 t63 t64 t65 t66 t67 t68 t69 t70 t71 t72 t73 t74 t75 t76 t77 t78 t79 t80 t81 : Value}
    (HC : Hid (∀ {w' : World}, Below u.heap.size u w' → (w'.cell? ⟨ba, 0, none⟩ = some (.slice z1 m1 u1) ∧ w'.cell? ⟨ba, 1, none⟩ = some (.slice z2 m2 u2)))) (HLv : Hid LiveOK) (KI : KInts u t a0 ln c0) (KS : KSame u t z1 m1 u1 z2 m2 u2) (hs : (ln : Int) ≤ 4096)
    (hQ : ∀ s1 e1 f1 s2 e2 f2 w', Below u.heap.size u w' → Q .normal { tmps := #[.slice a0 ln c0, t1, t2, .pointer (some ⟨ba, 0, none⟩), .slice ab ln cb, .bool true, t6, t7, t8, t9, t10, t11, t12, t13, t14, t15, .bool true, .bool false, .bool false, .agg #[.slice z1 m1 u1, .slice z2 m2 u2], .slice a0 ln c0, .agg #[.slice s1 e1 f1, .slice s2 e2 f2], .bool true, .bool false, .bool false, .bool false, .bool true, .bool false, .bool false, .bool false, .slice ab ln cb, .int .i64 (ln : Int), .bool false, .bool false, .bool false, .slice a0 ln c0, .int .i64 (ln : Int), .bool true, .bool true, .slice ab ln cb, .int .i64 (ln : Int), .slice a0 ln c0, .int .i64 (ln : Int), .bool false, .bool false, .bool false, t46, t47, t48, t49, t50, t51, t52, t53, t54, t55, t56, t57, t58, t59, t60, t61, t62, t63, t64, t65, t66, t67, t68, t69, t70, t71, t72, t73, t74, t75, t76, t77, t78, t79, t80, t81], defers := [] } w') (hP : ∀ c a d v w, Q (.panic c) (Act.put a d v) w → Q (.panic c) a w) :
    (Code.region 3 #[{ dst := some 16, op := Op.call { callee := Callee.value (Operand.func 8), args := #[], argTypes := #[] }, type := 4, pos := "law.go:77", after := #[], guard := none }, { dst := some 17, op := Op.unOp UnOp.not 4 (Operand.tmp 16), type := 4, pos := "law.go:77", after := #[{ on := 0, ground := Ground.data }], guard := none }, { dst := some 18, op := Op.move (Operand.tmp 17), type := 4, pos := "law.go:77", after := #[{ on := 1, ground := Ground.data }, { on := 0, ground := Ground.chain }], guard := none }, { dst := some 19, op := Op.load 25 (Operand.tmp 3), type := 25, pos := "law.go:77", after := #[{ on := 2, ground := Ground.guard }], guard := some (2, false) }, { dst := some 20, op := Op.move (Operand.tmp 0), type := 22, pos := "law.go:77", after := #[{ on := 2, ground := Ground.guard }], guard := some (2, false) }, { dst := some 21, op := Op.call { callee := Callee.value (Operand.func 20), args := #[Operand.tmp 20], argTypes := #[22] }, type := 25, pos := "law.go:77", after := #[{ on := 4, ground := Ground.data }, { on := 2, ground := Ground.chain }, { on := 2, ground := Ground.guard }], guard := some (2, false) }, { dst := some 22, op := Op.call { callee := Callee.value (Operand.func 17), args := #[Operand.tmp 19, Operand.tmp 21], argTypes := #[25, 25] }, type := 4, pos := "law.go:77", after := #[{ on := 3, ground := Ground.data }, { on := 5, ground := Ground.data }, { on := 5, ground := Ground.chain }, { on := 2, ground := Ground.guard }], guard := some (2, false) }, { dst := some 23, op := Op.unOp UnOp.not 4 (Operand.tmp 22), type := 4, pos := "law.go:77", after := #[{ on := 6, ground := Ground.data }, { on := 2, ground := Ground.guard }], guard := some (2, false) }, { dst := some 24, op := Op.pick (Operand.tmp 18) (Operand.const (Value.bool true)) (Operand.tmp 23), type := 4, pos := "law.go:77", after := #[{ on := 2, ground := Ground.data }, { on := 7, ground := Ground.data }], guard := none }, { dst := some 25, op := Op.move (Operand.tmp 24), type := 4, pos := "law.go:77", after := #[{ on := 8, ground := Ground.data }, { on := 6, ground := Ground.chain }], guard := none }, { dst := some 26, op := Op.move (Operand.tmp 5), type := 4, pos := "law.go:77", after := #[{ on := 9, ground := Ground.guard }], guard := some (9, false) }, { dst := some 27, op := Op.unOp UnOp.not 4 (Operand.tmp 26), type := 4, pos := "law.go:77", after := #[{ on := 10, ground := Ground.data }, { on := 9, ground := Ground.guard }], guard := some (9, false) }, { dst := some 28, op := Op.pick (Operand.tmp 25) (Operand.const (Value.bool true)) (Operand.tmp 27), type := 4, pos := "law.go:77", after := #[{ on := 9, ground := Ground.data }, { on := 11, ground := Ground.data }], guard := none }, { dst := some 29, op := Op.move (Operand.tmp 28), type := 4, pos := "law.go:77", after := #[{ on := 12, ground := Ground.data }, { on := 9, ground := Ground.chain }], guard := none }, { dst := some 30, op := Op.move (Operand.tmp 4), type := 22, pos := "law.go:77", after := #[{ on := 13, ground := Ground.guard }], guard := some (13, false) }, { dst := some 31, op := Op.call { callee := Callee.builtin Builtin.len, args := #[Operand.tmp 30], argTypes := #[22] }, type := 3, pos := "law.go:77", after := #[{ on := 14, ground := Ground.data }, { on := 13, ground := Ground.guard }], guard := some (13, false) }, { dst := some 32, op := Op.binOp BinOp.gtr 3 (Operand.tmp 31) (Operand.const (Value.int IntKind.i64 4096)) 3, type := 4, pos := "law.go:77", after := #[{ on := 15, ground := Ground.data }, { on := 13, ground := Ground.guard }], guard := some (13, false) }, { dst := some 33, op := Op.pick (Operand.tmp 29) (Operand.const (Value.bool true)) (Operand.tmp 32), type := 4, pos := "law.go:77", after := #[{ on := 13, ground := Ground.data }, { on := 16, ground := Ground.data }], guard := none }, { dst := some 34, op := Op.move (Operand.tmp 33), type := 4, pos := "law.go:77", after := #[{ on := 17, ground := Ground.data }, { on := 13, ground := Ground.chain }], guard := none }, { dst := some 35, op := Op.move (Operand.tmp 0), type := 22, pos := "law.go:77", after := #[{ on := 18, ground := Ground.guard }], guard := some (18, false) }, { dst := some 36, op := Op.call { callee := Callee.builtin Builtin.len, args := #[Operand.tmp 35], argTypes := #[22] }, type := 3, pos := "law.go:77", after := #[{ on := 19, ground := Ground.data }, { on := 18, ground := Ground.guard }], guard := some (18, false) }, { dst := some 37, op := Op.binOp BinOp.leq 3 (Operand.tmp 36) (Operand.const (Value.int IntKind.i64 4096)) 3, type := 4, pos := "law.go:77", after := #[{ on := 20, ground := Ground.data }, { on := 18, ground := Ground.guard }], guard := some (18, false) }, { dst := some 38, op := Op.move (Operand.tmp 37), type := 4, pos := "law.go:77", after := #[{ on := 21, ground := Ground.data }, { on := 18, ground := Ground.chain }, { on := 18, ground := Ground.guard }], guard := some (18, false) }, { dst := some 39, op := Op.move (Operand.tmp 4), type := 22, pos := "law.go:77", after := #[{ on := 22, ground := Ground.guard }], guard := some (22, true) }, { dst := some 40, op := Op.call { callee := Callee.builtin Builtin.len, args := #[Operand.tmp 39], argTypes := #[22] }, type := 3, pos := "law.go:77", after := #[{ on := 23, ground := Ground.data }, { on := 22, ground := Ground.guard }], guard := some (22, true) }, { dst := some 41, op := Op.move (Operand.tmp 0), type := 22, pos := "law.go:77", after := #[{ on := 22, ground := Ground.guard }], guard := some (22, true) }, { dst := some 42, op := Op.call { callee := Callee.builtin Builtin.len, args := #[Operand.tmp 41], argTypes := #[22] }, type := 3, pos := "law.go:77", after := #[{ on := 25, ground := Ground.data }, { on := 22, ground := Ground.guard }], guard := some (22, true) }, { dst := some 43, op := Op.binOp BinOp.neq 3 (Operand.tmp 40) (Operand.tmp 42) 3, type := 4, pos := "law.go:77", after := #[{ on := 24, ground := Ground.data }, { on := 26, ground := Ground.data }, { on := 22, ground := Ground.guard }], guard := some (22, true) }, { dst := some 44, op := Op.pick (Operand.tmp 38) (Operand.tmp 43) (Operand.const (Value.bool false)), type := 4, pos := "law.go:77", after := #[{ on := 22, ground := Ground.data }, { on := 27, ground := Ground.data }, { on := 18, ground := Ground.guard }], guard := some (18, false) }, { dst := some 45, op := Op.pick (Operand.tmp 34) (Operand.const (Value.bool true)) (Operand.tmp 44), type := 4, pos := "law.go:77", after := #[{ on := 18, ground := Ground.data }, { on := 28, ground := Ground.data }], guard := none }] true).wp Try.prog Q { tmps := #[.slice a0 ln c0, t1, t2, .pointer (some ⟨ba, 0, none⟩), .slice ab ln cb, .bool true, t6, t7, t8, t9, t10, t11, t12, t13, t14, t15, t16, t17, t18, t19, t20, t21, t22, t23, t24, t25, t26, t27, t28, t29, t30, t31, t32, t33, t34, t35, t36, t37, t38, t39, t40, t41, t42, t43, t44, t45, t46, t47, t48, t49, t50, t51, t52, t53, t54, t55, t56, t57, t58, t59, t60, t61, t62, t63, t64, t65, t66, t67, t68, t69, t70, t71, t72, t73, t74, t75, t76, t77, t78, t79, t80, t81], defers := [] } u := by
  have d0 : Below u.heap.size u u.drew := ⟨rfl, rfl, rfl, Nat.le_refl _, fun _ _ => rfl⟩
  have j0 := HC.out d0
  refine wp_region_held_drew (S := (fun w' => w'.cell? ⟨ba, 0, none⟩ = some (.slice z1 m1 u1) ∧ w'.cell? ⟨ba, 1, none⟩ = some (.slice z2 m2 u2))) (by kernel_rfl) j0 (fun hS => ?_)
  refine wpAnyH_ready (rs := [0]) (by kernel_rfl) (by simp) ?_
  refine AllReadyH.cons (o := { dst := some 16, op := Op.call { callee := Callee.value (Operand.func 8), args := #[], argTypes := #[] }, type := 4, pos := "law.go:77", after := #[], guard := none }) rfl (fun K hK => ?_) AllReadyH.nil
  go_simp
  refine (HLv.out _).mono ?_
  rintro e ww1 ⟨rfl, qq1⟩
  have kk1 : Below u.heap.size u ww1 := d0.trans (qq1.mono d0.size)
  have jj1 := HC.out kk1
  go_simp
  refine hK.out _ _ (jj1) (fun _ => ?_)
  clear hK K
  refine wpAnyH_take (i := 1) (oi := { dst := some 17, op := Op.unOp UnOp.not 4 (Operand.tmp 16), type := 4, pos := "law.go:77", after := #[{ on := 0, ground := Ground.data }], guard := none }) (v := .bool false) rfl (by kernel_rfl) (by kernel_rfl) (by kernel_rfl) (fun _ _ _ h => hP _ _ _ _ _ h) (Or.inl ⟨by rfl, (by intro w hSw; (try dsimp only at hSw); go_simp)⟩) (by assumption) ?_
  simp only [Act.put, List.setIfInBounds_toArray, List.set_cons_zero, List.set_cons_succ]
  refine wpAnyH_take (i := 2) (oi := { dst := some 18, op := Op.move (Operand.tmp 17), type := 4, pos := "law.go:77", after := #[{ on := 1, ground := Ground.data }, { on := 0, ground := Ground.chain }], guard := none }) (v := .bool false) rfl (by kernel_rfl) (by kernel_rfl) (by kernel_rfl) (fun _ _ _ h => hP _ _ _ _ _ h) (Or.inl ⟨by rfl, (by intro w hSw; (try dsimp only at hSw); go_simp)⟩) (by assumption) ?_
  simp only [Act.put, List.setIfInBounds_toArray, List.set_cons_zero, List.set_cons_succ]
  refine wpAnyH_take (i := 3) (oi := { dst := some 19, op := Op.load 25 (Operand.tmp 3), type := 25, pos := "law.go:77", after := #[{ on := 2, ground := Ground.guard }], guard := some (2, false) }) (v := .agg #[.slice z1 m1 u1, .slice z2 m2 u2]) rfl (by kernel_rfl) (by kernel_rfl) (by kernel_rfl) (fun _ _ _ h => hP _ _ _ _ _ h) (Or.inl ⟨by rfl, (by intro w hSw; (try dsimp only at hSw); go_simp)⟩) (by assumption) ?_
  simp only [Act.put, List.setIfInBounds_toArray, List.set_cons_zero, List.set_cons_succ]
  refine wpAnyH_take (i := 4) (oi := { dst := some 20, op := Op.move (Operand.tmp 0), type := 22, pos := "law.go:77", after := #[{ on := 2, ground := Ground.guard }], guard := some (2, false) }) (v := .slice a0 ln c0) rfl (by kernel_rfl) (by kernel_rfl) (by kernel_rfl) (fun _ _ _ h => hP _ _ _ _ _ h) (Or.inl ⟨by rfl, (by intro w hSw; (try dsimp only at hSw); go_simp)⟩) (by assumption) ?_
  simp only [Act.put, List.setIfInBounds_toArray, List.set_cons_zero, List.set_cons_succ]
  refine wpAnyH_ready (rs := [5]) (by kernel_rfl) (by simp) ?_
  refine AllReadyH.cons (o := { dst := some 21, op := Op.call { callee := Callee.value (Operand.func 20), args := #[Operand.tmp 20], argTypes := #[22] }, type := 25, pos := "law.go:77", after := #[{ on := 4, ground := Ground.data }, { on := 2, ground := Ground.chain }, { on := 2, ground := Ground.guard }], guard := some (2, false) }) rfl (fun K hK => ?_) AllReadyH.nil
  go_simp
  refine (KI.out _ kk1).mono ?_
  rintro e ww2 ⟨s1, e1, f1, s2, e2, f2, rfl, hv, qq2⟩
  have HVI : Hid (ArV 1 (Fr ww1.heap.size ww2.heap.size) ww2 (.slice s1 e1 f1) (.slice s2 e2 f2) t) := hv
  clear hv
  have kk2 : Below u.heap.size u ww2 := kk1.trans (qq2.mono kk1.size)
  have jj2 := HC.out kk2
  go_simp
  refine hK.out _ _ (jj2) (fun _ => ?_)
  clear hK K
  refine wpAnyH_ready (rs := [6]) (by kernel_rfl) (by simp) ?_
  refine AllReadyH.cons (o := { dst := some 22, op := Op.call { callee := Callee.value (Operand.func 17), args := #[Operand.tmp 19, Operand.tmp 21], argTypes := #[25, 25] }, type := 4, pos := "law.go:77", after := #[{ on := 3, ground := Ground.data }, { on := 5, ground := Ground.data }, { on := 5, ground := Ground.chain }, { on := 2, ground := Ground.guard }], guard := some (2, false) }) rfl (fun K hK => ?_) AllReadyH.nil
  go_simp
  refine (KS.out _ s1 e1 f1 s2 e2 f2 _ kk2 HVI.out).mono ?_
  rintro e ww3 ⟨rfl, qq3⟩
  have kk3 : Below u.heap.size u ww3 := kk2.trans (qq3.mono kk2.size)
  have jj3 := HC.out kk3
  go_simp
  refine hK.out _ _ (jj3) (fun _ => ?_)
  clear hK K
  refine wpAnyH_take (i := 7) (oi := { dst := some 23, op := Op.unOp UnOp.not 4 (Operand.tmp 22), type := 4, pos := "law.go:77", after := #[{ on := 6, ground := Ground.data }, { on := 2, ground := Ground.guard }], guard := some (2, false) }) (v := .bool false) rfl (by kernel_rfl) (by kernel_rfl) (by kernel_rfl) (fun _ _ _ h => hP _ _ _ _ _ h) (Or.inl ⟨by rfl, (by intro w hSw; (try dsimp only at hSw); go_simp)⟩) (by assumption) ?_
  simp only [Act.put, List.setIfInBounds_toArray, List.set_cons_zero, List.set_cons_succ]
  refine wpAnyH_take (i := 8) (oi := { dst := some 24, op := Op.pick (Operand.tmp 18) (Operand.const (Value.bool true)) (Operand.tmp 23), type := 4, pos := "law.go:77", after := #[{ on := 2, ground := Ground.data }, { on := 7, ground := Ground.data }], guard := none }) (v := .bool false) rfl (by kernel_rfl) (by kernel_rfl) (by kernel_rfl) (fun _ _ _ h => hP _ _ _ _ _ h) (Or.inl ⟨by rfl, (by intro w hSw; (try dsimp only at hSw); go_simp)⟩) (by assumption) ?_
  simp only [Act.put, List.setIfInBounds_toArray, List.set_cons_zero, List.set_cons_succ]
  refine wpAnyH_take (i := 9) (oi := { dst := some 25, op := Op.move (Operand.tmp 24), type := 4, pos := "law.go:77", after := #[{ on := 8, ground := Ground.data }, { on := 6, ground := Ground.chain }], guard := none }) (v := .bool false) rfl (by kernel_rfl) (by kernel_rfl) (by kernel_rfl) (fun _ _ _ h => hP _ _ _ _ _ h) (Or.inl ⟨by rfl, (by intro w hSw; (try dsimp only at hSw); go_simp)⟩) (by assumption) ?_
  simp only [Act.put, List.setIfInBounds_toArray, List.set_cons_zero, List.set_cons_succ]
  refine wpAnyH_take (i := 10) (oi := { dst := some 26, op := Op.move (Operand.tmp 5), type := 4, pos := "law.go:77", after := #[{ on := 9, ground := Ground.guard }], guard := some (9, false) }) (v := .bool true) rfl (by kernel_rfl) (by kernel_rfl) (by kernel_rfl) (fun _ _ _ h => hP _ _ _ _ _ h) (Or.inl ⟨by rfl, (by intro w hSw; (try dsimp only at hSw); go_simp)⟩) (by assumption) ?_
  simp only [Act.put, List.setIfInBounds_toArray, List.set_cons_zero, List.set_cons_succ]
  refine wpAnyH_take (i := 11) (oi := { dst := some 27, op := Op.unOp UnOp.not 4 (Operand.tmp 26), type := 4, pos := "law.go:77", after := #[{ on := 10, ground := Ground.data }, { on := 9, ground := Ground.guard }], guard := some (9, false) }) (v := .bool false) rfl (by kernel_rfl) (by kernel_rfl) (by kernel_rfl) (fun _ _ _ h => hP _ _ _ _ _ h) (Or.inl ⟨by rfl, (by intro w hSw; (try dsimp only at hSw); go_simp)⟩) (by assumption) ?_
  simp only [Act.put, List.setIfInBounds_toArray, List.set_cons_zero, List.set_cons_succ]
  refine wpAnyH_take (i := 12) (oi := { dst := some 28, op := Op.pick (Operand.tmp 25) (Operand.const (Value.bool true)) (Operand.tmp 27), type := 4, pos := "law.go:77", after := #[{ on := 9, ground := Ground.data }, { on := 11, ground := Ground.data }], guard := none }) (v := .bool false) rfl (by kernel_rfl) (by kernel_rfl) (by kernel_rfl) (fun _ _ _ h => hP _ _ _ _ _ h) (Or.inl ⟨by rfl, (by intro w hSw; (try dsimp only at hSw); go_simp)⟩) (by assumption) ?_
  simp only [Act.put, List.setIfInBounds_toArray, List.set_cons_zero, List.set_cons_succ]
  refine wpAnyH_take (i := 13) (oi := { dst := some 29, op := Op.move (Operand.tmp 28), type := 4, pos := "law.go:77", after := #[{ on := 12, ground := Ground.data }, { on := 9, ground := Ground.chain }], guard := none }) (v := .bool false) rfl (by kernel_rfl) (by kernel_rfl) (by kernel_rfl) (fun _ _ _ h => hP _ _ _ _ _ h) (Or.inl ⟨by rfl, (by intro w hSw; (try dsimp only at hSw); go_simp)⟩) (by assumption) ?_
  simp only [Act.put, List.setIfInBounds_toArray, List.set_cons_zero, List.set_cons_succ]
  refine wpAnyH_take (i := 14) (oi := { dst := some 30, op := Op.move (Operand.tmp 4), type := 22, pos := "law.go:77", after := #[{ on := 13, ground := Ground.guard }], guard := some (13, false) }) (v := .slice ab ln cb) rfl (by kernel_rfl) (by kernel_rfl) (by kernel_rfl) (fun _ _ _ h => hP _ _ _ _ _ h) (Or.inl ⟨by rfl, (by intro w hSw; (try dsimp only at hSw); go_simp)⟩) (by assumption) ?_
  simp only [Act.put, List.setIfInBounds_toArray, List.set_cons_zero, List.set_cons_succ]
  refine wpAnyH_take (i := 15) (oi := { dst := some 31, op := Op.call { callee := Callee.builtin Builtin.len, args := #[Operand.tmp 30], argTypes := #[22] }, type := 3, pos := "law.go:77", after := #[{ on := 14, ground := Ground.data }, { on := 13, ground := Ground.guard }], guard := some (13, false) }) (v := .int .i64 (ln : Int)) rfl (by kernel_rfl) (by kernel_rfl) (by kernel_rfl) (fun _ _ _ h => hP _ _ _ _ _ h) (Or.inl ⟨by rfl, (by intro w hSw; (try dsimp only at hSw); go_simp)⟩) (by assumption) ?_
  simp only [Act.put, List.setIfInBounds_toArray, List.set_cons_zero, List.set_cons_succ]
  refine wpAnyH_take (i := 16) (oi := { dst := some 32, op := Op.binOp BinOp.gtr 3 (Operand.tmp 31) (Operand.const (Value.int IntKind.i64 4096)) 3, type := 4, pos := "law.go:77", after := #[{ on := 15, ground := Ground.data }, { on := 13, ground := Ground.guard }], guard := some (13, false) }) (v := .bool false) rfl (by kernel_rfl) (by kernel_rfl) (by kernel_rfl) (fun _ _ _ h => hP _ _ _ _ _ h) (Or.inl ⟨by rfl, (by intro w hSw; (try dsimp only at hSw); go_simp)⟩) (by assumption) ?_
  simp only [Act.put, List.setIfInBounds_toArray, List.set_cons_zero, List.set_cons_succ]
  refine wpAnyH_take (i := 17) (oi := { dst := some 33, op := Op.pick (Operand.tmp 29) (Operand.const (Value.bool true)) (Operand.tmp 32), type := 4, pos := "law.go:77", after := #[{ on := 13, ground := Ground.data }, { on := 16, ground := Ground.data }], guard := none }) (v := .bool false) rfl (by kernel_rfl) (by kernel_rfl) (by kernel_rfl) (fun _ _ _ h => hP _ _ _ _ _ h) (Or.inl ⟨by rfl, (by intro w hSw; (try dsimp only at hSw); go_simp)⟩) (by assumption) ?_
  simp only [Act.put, List.setIfInBounds_toArray, List.set_cons_zero, List.set_cons_succ]
  refine wpAnyH_take (i := 18) (oi := { dst := some 34, op := Op.move (Operand.tmp 33), type := 4, pos := "law.go:77", after := #[{ on := 17, ground := Ground.data }, { on := 13, ground := Ground.chain }], guard := none }) (v := .bool false) rfl (by kernel_rfl) (by kernel_rfl) (by kernel_rfl) (fun _ _ _ h => hP _ _ _ _ _ h) (Or.inl ⟨by rfl, (by intro w hSw; (try dsimp only at hSw); go_simp)⟩) (by assumption) ?_
  simp only [Act.put, List.setIfInBounds_toArray, List.set_cons_zero, List.set_cons_succ]
  refine wpAnyH_take (i := 19) (oi := { dst := some 35, op := Op.move (Operand.tmp 0), type := 22, pos := "law.go:77", after := #[{ on := 18, ground := Ground.guard }], guard := some (18, false) }) (v := .slice a0 ln c0) rfl (by kernel_rfl) (by kernel_rfl) (by kernel_rfl) (fun _ _ _ h => hP _ _ _ _ _ h) (Or.inl ⟨by rfl, (by intro w hSw; (try dsimp only at hSw); go_simp)⟩) (by assumption) ?_
  simp only [Act.put, List.setIfInBounds_toArray, List.set_cons_zero, List.set_cons_succ]
  refine wpAnyH_take (i := 20) (oi := { dst := some 36, op := Op.call { callee := Callee.builtin Builtin.len, args := #[Operand.tmp 35], argTypes := #[22] }, type := 3, pos := "law.go:77", after := #[{ on := 19, ground := Ground.data }, { on := 18, ground := Ground.guard }], guard := some (18, false) }) (v := .int .i64 (ln : Int)) rfl (by kernel_rfl) (by kernel_rfl) (by kernel_rfl) (fun _ _ _ h => hP _ _ _ _ _ h) (Or.inl ⟨by rfl, (by intro w hSw; (try dsimp only at hSw); go_simp)⟩) (by assumption) ?_
  simp only [Act.put, List.setIfInBounds_toArray, List.set_cons_zero, List.set_cons_succ]
  refine wpAnyH_take (i := 21) (oi := { dst := some 37, op := Op.binOp BinOp.leq 3 (Operand.tmp 36) (Operand.const (Value.int IntKind.i64 4096)) 3, type := 4, pos := "law.go:77", after := #[{ on := 20, ground := Ground.data }, { on := 18, ground := Ground.guard }], guard := some (18, false) }) (v := .bool true) rfl (by kernel_rfl) (by kernel_rfl) (by kernel_rfl) (fun _ _ _ h => hP _ _ _ _ _ h) (Or.inl ⟨by rfl, (by intro w hSw; (try dsimp only at hSw); go_simp)⟩) (by assumption) ?_
  simp only [Act.put, List.setIfInBounds_toArray, List.set_cons_zero, List.set_cons_succ]
  refine wpAnyH_take (i := 22) (oi := { dst := some 38, op := Op.move (Operand.tmp 37), type := 4, pos := "law.go:77", after := #[{ on := 21, ground := Ground.data }, { on := 18, ground := Ground.chain }, { on := 18, ground := Ground.guard }], guard := some (18, false) }) (v := .bool true) rfl (by kernel_rfl) (by kernel_rfl) (by kernel_rfl) (fun _ _ _ h => hP _ _ _ _ _ h) (Or.inl ⟨by rfl, (by intro w hSw; (try dsimp only at hSw); go_simp)⟩) (by assumption) ?_
  simp only [Act.put, List.setIfInBounds_toArray, List.set_cons_zero, List.set_cons_succ]
  refine wpAnyH_take (i := 23) (oi := { dst := some 39, op := Op.move (Operand.tmp 4), type := 22, pos := "law.go:77", after := #[{ on := 22, ground := Ground.guard }], guard := some (22, true) }) (v := .slice ab ln cb) rfl (by kernel_rfl) (by kernel_rfl) (by kernel_rfl) (fun _ _ _ h => hP _ _ _ _ _ h) (Or.inl ⟨by rfl, (by intro w hSw; (try dsimp only at hSw); go_simp)⟩) (by assumption) ?_
  simp only [Act.put, List.setIfInBounds_toArray, List.set_cons_zero, List.set_cons_succ]
  refine wpAnyH_take (i := 24) (oi := { dst := some 40, op := Op.call { callee := Callee.builtin Builtin.len, args := #[Operand.tmp 39], argTypes := #[22] }, type := 3, pos := "law.go:77", after := #[{ on := 23, ground := Ground.data }, { on := 22, ground := Ground.guard }], guard := some (22, true) }) (v := .int .i64 (ln : Int)) rfl (by kernel_rfl) (by kernel_rfl) (by kernel_rfl) (fun _ _ _ h => hP _ _ _ _ _ h) (Or.inl ⟨by rfl, (by intro w hSw; (try dsimp only at hSw); go_simp)⟩) (by assumption) ?_
  simp only [Act.put, List.setIfInBounds_toArray, List.set_cons_zero, List.set_cons_succ]
  refine wpAnyH_take (i := 25) (oi := { dst := some 41, op := Op.move (Operand.tmp 0), type := 22, pos := "law.go:77", after := #[{ on := 22, ground := Ground.guard }], guard := some (22, true) }) (v := .slice a0 ln c0) rfl (by kernel_rfl) (by kernel_rfl) (by kernel_rfl) (fun _ _ _ h => hP _ _ _ _ _ h) (Or.inl ⟨by rfl, (by intro w hSw; (try dsimp only at hSw); go_simp)⟩) (by assumption) ?_
  simp only [Act.put, List.setIfInBounds_toArray, List.set_cons_zero, List.set_cons_succ]
  refine wpAnyH_take (i := 26) (oi := { dst := some 42, op := Op.call { callee := Callee.builtin Builtin.len, args := #[Operand.tmp 41], argTypes := #[22] }, type := 3, pos := "law.go:77", after := #[{ on := 25, ground := Ground.data }, { on := 22, ground := Ground.guard }], guard := some (22, true) }) (v := .int .i64 (ln : Int)) rfl (by kernel_rfl) (by kernel_rfl) (by kernel_rfl) (fun _ _ _ h => hP _ _ _ _ _ h) (Or.inl ⟨by rfl, (by intro w hSw; (try dsimp only at hSw); go_simp)⟩) (by assumption) ?_
  simp only [Act.put, List.setIfInBounds_toArray, List.set_cons_zero, List.set_cons_succ]
  refine wpAnyH_take (i := 27) (oi := { dst := some 43, op := Op.binOp BinOp.neq 3 (Operand.tmp 40) (Operand.tmp 42) 3, type := 4, pos := "law.go:77", after := #[{ on := 24, ground := Ground.data }, { on := 26, ground := Ground.data }, { on := 22, ground := Ground.guard }], guard := some (22, true) }) (v := .bool false) rfl (by kernel_rfl) (by kernel_rfl) (by kernel_rfl) (fun _ _ _ h => hP _ _ _ _ _ h) (Or.inl ⟨by rfl, (by intro w hSw; (try dsimp only at hSw); go_simp)⟩) (by assumption) ?_
  simp only [Act.put, List.setIfInBounds_toArray, List.set_cons_zero, List.set_cons_succ]
  refine wpAnyH_take (i := 28) (oi := { dst := some 44, op := Op.pick (Operand.tmp 38) (Operand.tmp 43) (Operand.const (Value.bool false)), type := 4, pos := "law.go:77", after := #[{ on := 22, ground := Ground.data }, { on := 27, ground := Ground.data }, { on := 18, ground := Ground.guard }], guard := some (18, false) }) (v := .bool false) rfl (by kernel_rfl) (by kernel_rfl) (by kernel_rfl) (fun _ _ _ h => hP _ _ _ _ _ h) (Or.inl ⟨by rfl, (by intro w hSw; (try dsimp only at hSw); go_simp)⟩) (by assumption) ?_
  simp only [Act.put, List.setIfInBounds_toArray, List.set_cons_zero, List.set_cons_succ]
  refine wpAnyH_take (i := 29) (oi := { dst := some 45, op := Op.pick (Operand.tmp 34) (Operand.const (Value.bool true)) (Operand.tmp 44), type := 4, pos := "law.go:77", after := #[{ on := 18, ground := Ground.data }, { on := 28, ground := Ground.data }], guard := none }) (v := .bool false) rfl (by kernel_rfl) (by kernel_rfl) (by kernel_rfl) (fun _ _ _ h => hP _ _ _ _ _ h) (Or.inl ⟨by rfl, (by intro w hSw; (try dsimp only at hSw); go_simp)⟩) (by assumption) ?_
  simp only [Act.put, List.setIfInBounds_toArray, List.set_cons_zero, List.set_cons_succ]
  refine wpAnyH_done (by kernel_rfl) ?_ _
  exact hQ _ _ _ _ _ _ _ kk3
set_option maxRecDepth 100000 in
set_option maxHeartbeats 16000000 in
theorem ints_big {u : World} {ba ln m c0 cb m1 u1 m2 u2 : Nat} {t : Tr} {a0 ab z1 z2 : Option Addr} {Q : Exit → Act → World → Prop} {t1 t2 t6 t7 t8 t9 t10 t11 t12 t13 t14 t15 t16 t17 t18 t19 t20 t21 t22 t23 t24 t25 t26 t27 t28 t29 t30 t31 t32 t33 t34 t35 t36 t37 t38 t39 t40 t41 t42 t43 t44 t45 t46 t47 t48 t49 t50 t51 t52 t53 t54 t55 t56 t57 t58 t59 t60 t61 t62 t63 t64 t65 t66 t67 t68 t69 t70 t71 t72 t73 t74 t75 t76 t77 t78 t79 t80 t81 : Value}
    (HC : Hid (∀ {w' : World}, Below u.heap.size u w' → (w'.cell? ⟨ba, 0, none⟩ = some (.slice z1 m1 u1) ∧ w'.cell? ⟨ba, 1, none⟩ = some (.slice z2 m2 u2)))) (HLv : Hid LiveOK) (KI : KInts u t a0 ln c0) (KS : KSame u t z1 m1 u1 z2 m2 u2) (hs : ¬ (ln : Int) ≤ 4096) (hs2 : (4096 : Int) < (ln : Int)) (hm : ¬ (4096 : Int) < (m : Int))
    (hQ : ∀ s1 e1 f1 s2 e2 f2 w', Below u.heap.size u w' → Q .normal { tmps := #[.slice a0 ln c0, t1, t2, .pointer (some ⟨ba, 0, none⟩), .slice ab m cb, .bool true, t6, t7, t8, t9, t10, t11, t12, t13, t14, t15, .bool true, .bool false, .bool false, .agg #[.slice z1 m1 u1, .slice z2 m2 u2], .slice a0 ln c0, .agg #[.slice s1 e1 f1, .slice s2 e2 f2], .bool true, .bool false, .bool false, .bool false, .bool true, .bool false, .bool false, .bool false, .slice ab m cb, .int .i64 (m : Int), .bool false, .bool false, .bool false, .slice a0 ln c0, .int .i64 (ln : Int), .bool false, .bool false, undef, undef, undef, undef, undef, .bool false, .bool false, t46, t47, t48, t49, t50, t51, t52, t53, t54, t55, t56, t57, t58, t59, t60, t61, t62, t63, t64, t65, t66, t67, t68, t69, t70, t71, t72, t73, t74, t75, t76, t77, t78, t79, t80, t81], defers := [] } w') (hP : ∀ c a d v w, Q (.panic c) (Act.put a d v) w → Q (.panic c) a w) :
    (Code.region 3 #[{ dst := some 16, op := Op.call { callee := Callee.value (Operand.func 8), args := #[], argTypes := #[] }, type := 4, pos := "law.go:77", after := #[], guard := none }, { dst := some 17, op := Op.unOp UnOp.not 4 (Operand.tmp 16), type := 4, pos := "law.go:77", after := #[{ on := 0, ground := Ground.data }], guard := none }, { dst := some 18, op := Op.move (Operand.tmp 17), type := 4, pos := "law.go:77", after := #[{ on := 1, ground := Ground.data }, { on := 0, ground := Ground.chain }], guard := none }, { dst := some 19, op := Op.load 25 (Operand.tmp 3), type := 25, pos := "law.go:77", after := #[{ on := 2, ground := Ground.guard }], guard := some (2, false) }, { dst := some 20, op := Op.move (Operand.tmp 0), type := 22, pos := "law.go:77", after := #[{ on := 2, ground := Ground.guard }], guard := some (2, false) }, { dst := some 21, op := Op.call { callee := Callee.value (Operand.func 20), args := #[Operand.tmp 20], argTypes := #[22] }, type := 25, pos := "law.go:77", after := #[{ on := 4, ground := Ground.data }, { on := 2, ground := Ground.chain }, { on := 2, ground := Ground.guard }], guard := some (2, false) }, { dst := some 22, op := Op.call { callee := Callee.value (Operand.func 17), args := #[Operand.tmp 19, Operand.tmp 21], argTypes := #[25, 25] }, type := 4, pos := "law.go:77", after := #[{ on := 3, ground := Ground.data }, { on := 5, ground := Ground.data }, { on := 5, ground := Ground.chain }, { on := 2, ground := Ground.guard }], guard := some (2, false) }, { dst := some 23, op := Op.unOp UnOp.not 4 (Operand.tmp 22), type := 4, pos := "law.go:77", after := #[{ on := 6, ground := Ground.data }, { on := 2, ground := Ground.guard }], guard := some (2, false) }, { dst := some 24, op := Op.pick (Operand.tmp 18) (Operand.const (Value.bool true)) (Operand.tmp 23), type := 4, pos := "law.go:77", after := #[{ on := 2, ground := Ground.data }, { on := 7, ground := Ground.data }], guard := none }, { dst := some 25, op := Op.move (Operand.tmp 24), type := 4, pos := "law.go:77", after := #[{ on := 8, ground := Ground.data }, { on := 6, ground := Ground.chain }], guard := none }, { dst := some 26, op := Op.move (Operand.tmp 5), type := 4, pos := "law.go:77", after := #[{ on := 9, ground := Ground.guard }], guard := some (9, false) }, { dst := some 27, op := Op.unOp UnOp.not 4 (Operand.tmp 26), type := 4, pos := "law.go:77", after := #[{ on := 10, ground := Ground.data }, { on := 9, ground := Ground.guard }], guard := some (9, false) }, { dst := some 28, op := Op.pick (Operand.tmp 25) (Operand.const (Value.bool true)) (Operand.tmp 27), type := 4, pos := "law.go:77", after := #[{ on := 9, ground := Ground.data }, { on := 11, ground := Ground.data }], guard := none }, { dst := some 29, op := Op.move (Operand.tmp 28), type := 4, pos := "law.go:77", after := #[{ on := 12, ground := Ground.data }, { on := 9, ground := Ground.chain }], guard := none }, { dst := some 30, op := Op.move (Operand.tmp 4), type := 22, pos := "law.go:77", after := #[{ on := 13, ground := Ground.guard }], guard := some (13, false) }, { dst := some 31, op := Op.call { callee := Callee.builtin Builtin.len, args := #[Operand.tmp 30], argTypes := #[22] }, type := 3, pos := "law.go:77", after := #[{ on := 14, ground := Ground.data }, { on := 13, ground := Ground.guard }], guard := some (13, false) }, { dst := some 32, op := Op.binOp BinOp.gtr 3 (Operand.tmp 31) (Operand.const (Value.int IntKind.i64 4096)) 3, type := 4, pos := "law.go:77", after := #[{ on := 15, ground := Ground.data }, { on := 13, ground := Ground.guard }], guard := some (13, false) }, { dst := some 33, op := Op.pick (Operand.tmp 29) (Operand.const (Value.bool true)) (Operand.tmp 32), type := 4, pos := "law.go:77", after := #[{ on := 13, ground := Ground.data }, { on := 16, ground := Ground.data }], guard := none }, { dst := some 34, op := Op.move (Operand.tmp 33), type := 4, pos := "law.go:77", after := #[{ on := 17, ground := Ground.data }, { on := 13, ground := Ground.chain }], guard := none }, { dst := some 35, op := Op.move (Operand.tmp 0), type := 22, pos := "law.go:77", after := #[{ on := 18, ground := Ground.guard }], guard := some (18, false) }, { dst := some 36, op := Op.call { callee := Callee.builtin Builtin.len, args := #[Operand.tmp 35], argTypes := #[22] }, type := 3, pos := "law.go:77", after := #[{ on := 19, ground := Ground.data }, { on := 18, ground := Ground.guard }], guard := some (18, false) }, { dst := some 37, op := Op.binOp BinOp.leq 3 (Operand.tmp 36) (Operand.const (Value.int IntKind.i64 4096)) 3, type := 4, pos := "law.go:77", after := #[{ on := 20, ground := Ground.data }, { on := 18, ground := Ground.guard }], guard := some (18, false) }, { dst := some 38, op := Op.move (Operand.tmp 37), type := 4, pos := "law.go:77", after := #[{ on := 21, ground := Ground.data }, { on := 18, ground := Ground.chain }, { on := 18, ground := Ground.guard }], guard := some (18, false) }, { dst := some 39, op := Op.move (Operand.tmp 4), type := 22, pos := "law.go:77", after := #[{ on := 22, ground := Ground.guard }], guard := some (22, true) }, { dst := some 40, op := Op.call { callee := Callee.builtin Builtin.len, args := #[Operand.tmp 39], argTypes := #[22] }, type := 3, pos := "law.go:77", after := #[{ on := 23, ground := Ground.data }, { on := 22, ground := Ground.guard }], guard := some (22, true) }, { dst := some 41, op := Op.move (Operand.tmp 0), type := 22, pos := "law.go:77", after := #[{ on := 22, ground := Ground.guard }], guard := some (22, true) }, { dst := some 42, op := Op.call { callee := Callee.builtin Builtin.len, args := #[Operand.tmp 41], argTypes := #[22] }, type := 3, pos := "law.go:77", after := #[{ on := 25, ground := Ground.data }, { on := 22, ground := Ground.guard }], guard := some (22, true) }, { dst := some 43, op := Op.binOp BinOp.neq 3 (Operand.tmp 40) (Operand.tmp 42) 3, type := 4, pos := "law.go:77", after := #[{ on := 24, ground := Ground.data }, { on := 26, ground := Ground.data }, { on := 22, ground := Ground.guard }], guard := some (22, true) }, { dst := some 44, op := Op.pick (Operand.tmp 38) (Operand.tmp 43) (Operand.const (Value.bool false)), type := 4, pos := "law.go:77", after := #[{ on := 22, ground := Ground.data }, { on := 27, ground := Ground.data }, { on := 18, ground := Ground.guard }], guard := some (18, false) }, { dst := some 45, op := Op.pick (Operand.tmp 34) (Operand.const (Value.bool true)) (Operand.tmp 44), type := 4, pos := "law.go:77", after := #[{ on := 18, ground := Ground.data }, { on := 28, ground := Ground.data }], guard := none }] true).wp Try.prog Q { tmps := #[.slice a0 ln c0, t1, t2, .pointer (some ⟨ba, 0, none⟩), .slice ab m cb, .bool true, t6, t7, t8, t9, t10, t11, t12, t13, t14, t15, t16, t17, t18, t19, t20, t21, t22, t23, t24, t25, t26, t27, t28, t29, t30, t31, t32, t33, t34, t35, t36, t37, t38, t39, t40, t41, t42, t43, t44, t45, t46, t47, t48, t49, t50, t51, t52, t53, t54, t55, t56, t57, t58, t59, t60, t61, t62, t63, t64, t65, t66, t67, t68, t69, t70, t71, t72, t73, t74, t75, t76, t77, t78, t79, t80, t81], defers := [] } u := by
  have d0 : Below u.heap.size u u.drew := ⟨rfl, rfl, rfl, Nat.le_refl _, fun _ _ => rfl⟩
  have j0 := HC.out d0
  refine wp_region_held_drew (S := (fun w' => w'.cell? ⟨ba, 0, none⟩ = some (.slice z1 m1 u1) ∧ w'.cell? ⟨ba, 1, none⟩ = some (.slice z2 m2 u2))) (by kernel_rfl) j0 (fun hS => ?_)
  refine wpAnyH_ready (rs := [0]) (by kernel_rfl) (by simp) ?_
  refine AllReadyH.cons (o := { dst := some 16, op := Op.call { callee := Callee.value (Operand.func 8), args := #[], argTypes := #[] }, type := 4, pos := "law.go:77", after := #[], guard := none }) rfl (fun K hK => ?_) AllReadyH.nil
  go_simp
  refine (HLv.out _).mono ?_
  rintro e ww1 ⟨rfl, qq1⟩
  have kk1 : Below u.heap.size u ww1 := d0.trans (qq1.mono d0.size)
  have jj1 := HC.out kk1
  go_simp
  refine hK.out _ _ (jj1) (fun _ => ?_)
  clear hK K
  refine wpAnyH_take (i := 1) (oi := { dst := some 17, op := Op.unOp UnOp.not 4 (Operand.tmp 16), type := 4, pos := "law.go:77", after := #[{ on := 0, ground := Ground.data }], guard := none }) (v := .bool false) rfl (by kernel_rfl) (by kernel_rfl) (by kernel_rfl) (fun _ _ _ h => hP _ _ _ _ _ h) (Or.inl ⟨by rfl, (by intro w hSw; (try dsimp only at hSw); go_simp)⟩) (by assumption) ?_
  simp only [Act.put, List.setIfInBounds_toArray, List.set_cons_zero, List.set_cons_succ]
  refine wpAnyH_take (i := 2) (oi := { dst := some 18, op := Op.move (Operand.tmp 17), type := 4, pos := "law.go:77", after := #[{ on := 1, ground := Ground.data }, { on := 0, ground := Ground.chain }], guard := none }) (v := .bool false) rfl (by kernel_rfl) (by kernel_rfl) (by kernel_rfl) (fun _ _ _ h => hP _ _ _ _ _ h) (Or.inl ⟨by rfl, (by intro w hSw; (try dsimp only at hSw); go_simp)⟩) (by assumption) ?_
  simp only [Act.put, List.setIfInBounds_toArray, List.set_cons_zero, List.set_cons_succ]
  refine wpAnyH_take (i := 3) (oi := { dst := some 19, op := Op.load 25 (Operand.tmp 3), type := 25, pos := "law.go:77", after := #[{ on := 2, ground := Ground.guard }], guard := some (2, false) }) (v := .agg #[.slice z1 m1 u1, .slice z2 m2 u2]) rfl (by kernel_rfl) (by kernel_rfl) (by kernel_rfl) (fun _ _ _ h => hP _ _ _ _ _ h) (Or.inl ⟨by rfl, (by intro w hSw; (try dsimp only at hSw); go_simp)⟩) (by assumption) ?_
  simp only [Act.put, List.setIfInBounds_toArray, List.set_cons_zero, List.set_cons_succ]
  refine wpAnyH_take (i := 4) (oi := { dst := some 20, op := Op.move (Operand.tmp 0), type := 22, pos := "law.go:77", after := #[{ on := 2, ground := Ground.guard }], guard := some (2, false) }) (v := .slice a0 ln c0) rfl (by kernel_rfl) (by kernel_rfl) (by kernel_rfl) (fun _ _ _ h => hP _ _ _ _ _ h) (Or.inl ⟨by rfl, (by intro w hSw; (try dsimp only at hSw); go_simp)⟩) (by assumption) ?_
  simp only [Act.put, List.setIfInBounds_toArray, List.set_cons_zero, List.set_cons_succ]
  refine wpAnyH_ready (rs := [5]) (by kernel_rfl) (by simp) ?_
  refine AllReadyH.cons (o := { dst := some 21, op := Op.call { callee := Callee.value (Operand.func 20), args := #[Operand.tmp 20], argTypes := #[22] }, type := 25, pos := "law.go:77", after := #[{ on := 4, ground := Ground.data }, { on := 2, ground := Ground.chain }, { on := 2, ground := Ground.guard }], guard := some (2, false) }) rfl (fun K hK => ?_) AllReadyH.nil
  go_simp
  refine (KI.out _ kk1).mono ?_
  rintro e ww2 ⟨s1, e1, f1, s2, e2, f2, rfl, hv, qq2⟩
  have HVI : Hid (ArV 1 (Fr ww1.heap.size ww2.heap.size) ww2 (.slice s1 e1 f1) (.slice s2 e2 f2) t) := hv
  clear hv
  have kk2 : Below u.heap.size u ww2 := kk1.trans (qq2.mono kk1.size)
  have jj2 := HC.out kk2
  go_simp
  refine hK.out _ _ (jj2) (fun _ => ?_)
  clear hK K
  refine wpAnyH_ready (rs := [6]) (by kernel_rfl) (by simp) ?_
  refine AllReadyH.cons (o := { dst := some 22, op := Op.call { callee := Callee.value (Operand.func 17), args := #[Operand.tmp 19, Operand.tmp 21], argTypes := #[25, 25] }, type := 4, pos := "law.go:77", after := #[{ on := 3, ground := Ground.data }, { on := 5, ground := Ground.data }, { on := 5, ground := Ground.chain }, { on := 2, ground := Ground.guard }], guard := some (2, false) }) rfl (fun K hK => ?_) AllReadyH.nil
  go_simp
  refine (KS.out _ s1 e1 f1 s2 e2 f2 _ kk2 HVI.out).mono ?_
  rintro e ww3 ⟨rfl, qq3⟩
  have kk3 : Below u.heap.size u ww3 := kk2.trans (qq3.mono kk2.size)
  have jj3 := HC.out kk3
  go_simp
  refine hK.out _ _ (jj3) (fun _ => ?_)
  clear hK K
  refine wpAnyH_take (i := 7) (oi := { dst := some 23, op := Op.unOp UnOp.not 4 (Operand.tmp 22), type := 4, pos := "law.go:77", after := #[{ on := 6, ground := Ground.data }, { on := 2, ground := Ground.guard }], guard := some (2, false) }) (v := .bool false) rfl (by kernel_rfl) (by kernel_rfl) (by kernel_rfl) (fun _ _ _ h => hP _ _ _ _ _ h) (Or.inl ⟨by rfl, (by intro w hSw; (try dsimp only at hSw); go_simp)⟩) (by assumption) ?_
  simp only [Act.put, List.setIfInBounds_toArray, List.set_cons_zero, List.set_cons_succ]
  refine wpAnyH_take (i := 8) (oi := { dst := some 24, op := Op.pick (Operand.tmp 18) (Operand.const (Value.bool true)) (Operand.tmp 23), type := 4, pos := "law.go:77", after := #[{ on := 2, ground := Ground.data }, { on := 7, ground := Ground.data }], guard := none }) (v := .bool false) rfl (by kernel_rfl) (by kernel_rfl) (by kernel_rfl) (fun _ _ _ h => hP _ _ _ _ _ h) (Or.inl ⟨by rfl, (by intro w hSw; (try dsimp only at hSw); go_simp)⟩) (by assumption) ?_
  simp only [Act.put, List.setIfInBounds_toArray, List.set_cons_zero, List.set_cons_succ]
  refine wpAnyH_take (i := 9) (oi := { dst := some 25, op := Op.move (Operand.tmp 24), type := 4, pos := "law.go:77", after := #[{ on := 8, ground := Ground.data }, { on := 6, ground := Ground.chain }], guard := none }) (v := .bool false) rfl (by kernel_rfl) (by kernel_rfl) (by kernel_rfl) (fun _ _ _ h => hP _ _ _ _ _ h) (Or.inl ⟨by rfl, (by intro w hSw; (try dsimp only at hSw); go_simp)⟩) (by assumption) ?_
  simp only [Act.put, List.setIfInBounds_toArray, List.set_cons_zero, List.set_cons_succ]
  refine wpAnyH_take (i := 10) (oi := { dst := some 26, op := Op.move (Operand.tmp 5), type := 4, pos := "law.go:77", after := #[{ on := 9, ground := Ground.guard }], guard := some (9, false) }) (v := .bool true) rfl (by kernel_rfl) (by kernel_rfl) (by kernel_rfl) (fun _ _ _ h => hP _ _ _ _ _ h) (Or.inl ⟨by rfl, (by intro w hSw; (try dsimp only at hSw); go_simp)⟩) (by assumption) ?_
  simp only [Act.put, List.setIfInBounds_toArray, List.set_cons_zero, List.set_cons_succ]
  refine wpAnyH_take (i := 11) (oi := { dst := some 27, op := Op.unOp UnOp.not 4 (Operand.tmp 26), type := 4, pos := "law.go:77", after := #[{ on := 10, ground := Ground.data }, { on := 9, ground := Ground.guard }], guard := some (9, false) }) (v := .bool false) rfl (by kernel_rfl) (by kernel_rfl) (by kernel_rfl) (fun _ _ _ h => hP _ _ _ _ _ h) (Or.inl ⟨by rfl, (by intro w hSw; (try dsimp only at hSw); go_simp)⟩) (by assumption) ?_
  simp only [Act.put, List.setIfInBounds_toArray, List.set_cons_zero, List.set_cons_succ]
  refine wpAnyH_take (i := 12) (oi := { dst := some 28, op := Op.pick (Operand.tmp 25) (Operand.const (Value.bool true)) (Operand.tmp 27), type := 4, pos := "law.go:77", after := #[{ on := 9, ground := Ground.data }, { on := 11, ground := Ground.data }], guard := none }) (v := .bool false) rfl (by kernel_rfl) (by kernel_rfl) (by kernel_rfl) (fun _ _ _ h => hP _ _ _ _ _ h) (Or.inl ⟨by rfl, (by intro w hSw; (try dsimp only at hSw); go_simp)⟩) (by assumption) ?_
  simp only [Act.put, List.setIfInBounds_toArray, List.set_cons_zero, List.set_cons_succ]
  refine wpAnyH_take (i := 13) (oi := { dst := some 29, op := Op.move (Operand.tmp 28), type := 4, pos := "law.go:77", after := #[{ on := 12, ground := Ground.data }, { on := 9, ground := Ground.chain }], guard := none }) (v := .bool false) rfl (by kernel_rfl) (by kernel_rfl) (by kernel_rfl) (fun _ _ _ h => hP _ _ _ _ _ h) (Or.inl ⟨by rfl, (by intro w hSw; (try dsimp only at hSw); go_simp)⟩) (by assumption) ?_
  simp only [Act.put, List.setIfInBounds_toArray, List.set_cons_zero, List.set_cons_succ]
  refine wpAnyH_take (i := 14) (oi := { dst := some 30, op := Op.move (Operand.tmp 4), type := 22, pos := "law.go:77", after := #[{ on := 13, ground := Ground.guard }], guard := some (13, false) }) (v := .slice ab m cb) rfl (by kernel_rfl) (by kernel_rfl) (by kernel_rfl) (fun _ _ _ h => hP _ _ _ _ _ h) (Or.inl ⟨by rfl, (by intro w hSw; (try dsimp only at hSw); go_simp)⟩) (by assumption) ?_
  simp only [Act.put, List.setIfInBounds_toArray, List.set_cons_zero, List.set_cons_succ]
  refine wpAnyH_take (i := 15) (oi := { dst := some 31, op := Op.call { callee := Callee.builtin Builtin.len, args := #[Operand.tmp 30], argTypes := #[22] }, type := 3, pos := "law.go:77", after := #[{ on := 14, ground := Ground.data }, { on := 13, ground := Ground.guard }], guard := some (13, false) }) (v := .int .i64 (m : Int)) rfl (by kernel_rfl) (by kernel_rfl) (by kernel_rfl) (fun _ _ _ h => hP _ _ _ _ _ h) (Or.inl ⟨by rfl, (by intro w hSw; (try dsimp only at hSw); go_simp)⟩) (by assumption) ?_
  simp only [Act.put, List.setIfInBounds_toArray, List.set_cons_zero, List.set_cons_succ]
  refine wpAnyH_take (i := 16) (oi := { dst := some 32, op := Op.binOp BinOp.gtr 3 (Operand.tmp 31) (Operand.const (Value.int IntKind.i64 4096)) 3, type := 4, pos := "law.go:77", after := #[{ on := 15, ground := Ground.data }, { on := 13, ground := Ground.guard }], guard := some (13, false) }) (v := .bool false) rfl (by kernel_rfl) (by kernel_rfl) (by kernel_rfl) (fun _ _ _ h => hP _ _ _ _ _ h) (Or.inl ⟨by rfl, (by intro w hSw; (try dsimp only at hSw); go_simp)⟩) (by assumption) ?_
  simp only [Act.put, List.setIfInBounds_toArray, List.set_cons_zero, List.set_cons_succ]
  refine wpAnyH_take (i := 17) (oi := { dst := some 33, op := Op.pick (Operand.tmp 29) (Operand.const (Value.bool true)) (Operand.tmp 32), type := 4, pos := "law.go:77", after := #[{ on := 13, ground := Ground.data }, { on := 16, ground := Ground.data }], guard := none }) (v := .bool false) rfl (by kernel_rfl) (by kernel_rfl) (by kernel_rfl) (fun _ _ _ h => hP _ _ _ _ _ h) (Or.inl ⟨by rfl, (by intro w hSw; (try dsimp only at hSw); go_simp)⟩) (by assumption) ?_
  simp only [Act.put, List.setIfInBounds_toArray, List.set_cons_zero, List.set_cons_succ]
  refine wpAnyH_take (i := 18) (oi := { dst := some 34, op := Op.move (Operand.tmp 33), type := 4, pos := "law.go:77", after := #[{ on := 17, ground := Ground.data }, { on := 13, ground := Ground.chain }], guard := none }) (v := .bool false) rfl (by kernel_rfl) (by kernel_rfl) (by kernel_rfl) (fun _ _ _ h => hP _ _ _ _ _ h) (Or.inl ⟨by rfl, (by intro w hSw; (try dsimp only at hSw); go_simp)⟩) (by assumption) ?_
  simp only [Act.put, List.setIfInBounds_toArray, List.set_cons_zero, List.set_cons_succ]
  refine wpAnyH_take (i := 19) (oi := { dst := some 35, op := Op.move (Operand.tmp 0), type := 22, pos := "law.go:77", after := #[{ on := 18, ground := Ground.guard }], guard := some (18, false) }) (v := .slice a0 ln c0) rfl (by kernel_rfl) (by kernel_rfl) (by kernel_rfl) (fun _ _ _ h => hP _ _ _ _ _ h) (Or.inl ⟨by rfl, (by intro w hSw; (try dsimp only at hSw); go_simp)⟩) (by assumption) ?_
  simp only [Act.put, List.setIfInBounds_toArray, List.set_cons_zero, List.set_cons_succ]
  refine wpAnyH_take (i := 20) (oi := { dst := some 36, op := Op.call { callee := Callee.builtin Builtin.len, args := #[Operand.tmp 35], argTypes := #[22] }, type := 3, pos := "law.go:77", after := #[{ on := 19, ground := Ground.data }, { on := 18, ground := Ground.guard }], guard := some (18, false) }) (v := .int .i64 (ln : Int)) rfl (by kernel_rfl) (by kernel_rfl) (by kernel_rfl) (fun _ _ _ h => hP _ _ _ _ _ h) (Or.inl ⟨by rfl, (by intro w hSw; (try dsimp only at hSw); go_simp)⟩) (by assumption) ?_
  simp only [Act.put, List.setIfInBounds_toArray, List.set_cons_zero, List.set_cons_succ]
  refine wpAnyH_take (i := 21) (oi := { dst := some 37, op := Op.binOp BinOp.leq 3 (Operand.tmp 36) (Operand.const (Value.int IntKind.i64 4096)) 3, type := 4, pos := "law.go:77", after := #[{ on := 20, ground := Ground.data }, { on := 18, ground := Ground.guard }], guard := some (18, false) }) (v := .bool false) rfl (by kernel_rfl) (by kernel_rfl) (by kernel_rfl) (fun _ _ _ h => hP _ _ _ _ _ h) (Or.inl ⟨by rfl, (by intro w hSw; (try dsimp only at hSw); go_simp)⟩) (by assumption) ?_
  simp only [Act.put, List.setIfInBounds_toArray, List.set_cons_zero, List.set_cons_succ]
  refine wpAnyH_take (i := 22) (oi := { dst := some 38, op := Op.move (Operand.tmp 37), type := 4, pos := "law.go:77", after := #[{ on := 21, ground := Ground.data }, { on := 18, ground := Ground.chain }, { on := 18, ground := Ground.guard }], guard := some (18, false) }) (v := .bool false) rfl (by kernel_rfl) (by kernel_rfl) (by kernel_rfl) (fun _ _ _ h => hP _ _ _ _ _ h) (Or.inl ⟨by rfl, (by intro w hSw; (try dsimp only at hSw); go_simp)⟩) (by assumption) ?_
  simp only [Act.put, List.setIfInBounds_toArray, List.set_cons_zero, List.set_cons_succ]
  refine wpAnyH_take (i := 23) (oi := { dst := some 39, op := Op.move (Operand.tmp 4), type := 22, pos := "law.go:77", after := #[{ on := 22, ground := Ground.guard }], guard := some (22, true) }) (v := undef) rfl (by kernel_rfl) (by kernel_rfl) (by kernel_rfl) (fun _ _ _ h => hP _ _ _ _ _ h) (Or.inr ⟨by rfl, rfl⟩) (by assumption) ?_
  simp only [Act.put, List.setIfInBounds_toArray, List.set_cons_zero, List.set_cons_succ]
  refine wpAnyH_take (i := 24) (oi := { dst := some 40, op := Op.call { callee := Callee.builtin Builtin.len, args := #[Operand.tmp 39], argTypes := #[22] }, type := 3, pos := "law.go:77", after := #[{ on := 23, ground := Ground.data }, { on := 22, ground := Ground.guard }], guard := some (22, true) }) (v := undef) rfl (by kernel_rfl) (by kernel_rfl) (by kernel_rfl) (fun _ _ _ h => hP _ _ _ _ _ h) (Or.inr ⟨by rfl, rfl⟩) (by assumption) ?_
  simp only [Act.put, List.setIfInBounds_toArray, List.set_cons_zero, List.set_cons_succ]
  refine wpAnyH_take (i := 25) (oi := { dst := some 41, op := Op.move (Operand.tmp 0), type := 22, pos := "law.go:77", after := #[{ on := 22, ground := Ground.guard }], guard := some (22, true) }) (v := undef) rfl (by kernel_rfl) (by kernel_rfl) (by kernel_rfl) (fun _ _ _ h => hP _ _ _ _ _ h) (Or.inr ⟨by rfl, rfl⟩) (by assumption) ?_
  simp only [Act.put, List.setIfInBounds_toArray, List.set_cons_zero, List.set_cons_succ]
  refine wpAnyH_take (i := 26) (oi := { dst := some 42, op := Op.call { callee := Callee.builtin Builtin.len, args := #[Operand.tmp 41], argTypes := #[22] }, type := 3, pos := "law.go:77", after := #[{ on := 25, ground := Ground.data }, { on := 22, ground := Ground.guard }], guard := some (22, true) }) (v := undef) rfl (by kernel_rfl) (by kernel_rfl) (by kernel_rfl) (fun _ _ _ h => hP _ _ _ _ _ h) (Or.inr ⟨by rfl, rfl⟩) (by assumption) ?_
  simp only [Act.put, List.setIfInBounds_toArray, List.set_cons_zero, List.set_cons_succ]
  refine wpAnyH_take (i := 27) (oi := { dst := some 43, op := Op.binOp BinOp.neq 3 (Operand.tmp 40) (Operand.tmp 42) 3, type := 4, pos := "law.go:77", after := #[{ on := 24, ground := Ground.data }, { on := 26, ground := Ground.data }, { on := 22, ground := Ground.guard }], guard := some (22, true) }) (v := undef) rfl (by kernel_rfl) (by kernel_rfl) (by kernel_rfl) (fun _ _ _ h => hP _ _ _ _ _ h) (Or.inr ⟨by rfl, rfl⟩) (by assumption) ?_
  simp only [Act.put, List.setIfInBounds_toArray, List.set_cons_zero, List.set_cons_succ]
  refine wpAnyH_take (i := 28) (oi := { dst := some 44, op := Op.pick (Operand.tmp 38) (Operand.tmp 43) (Operand.const (Value.bool false)), type := 4, pos := "law.go:77", after := #[{ on := 22, ground := Ground.data }, { on := 27, ground := Ground.data }, { on := 18, ground := Ground.guard }], guard := some (18, false) }) (v := .bool false) rfl (by kernel_rfl) (by kernel_rfl) (by kernel_rfl) (fun _ _ _ h => hP _ _ _ _ _ h) (Or.inl ⟨by rfl, (by intro w hSw; (try dsimp only at hSw); go_simp)⟩) (by assumption) ?_
  simp only [Act.put, List.setIfInBounds_toArray, List.set_cons_zero, List.set_cons_succ]
  refine wpAnyH_take (i := 29) (oi := { dst := some 45, op := Op.pick (Operand.tmp 34) (Operand.const (Value.bool true)) (Operand.tmp 44), type := 4, pos := "law.go:77", after := #[{ on := 18, ground := Ground.data }, { on := 28, ground := Ground.data }], guard := none }) (v := .bool false) rfl (by kernel_rfl) (by kernel_rfl) (by kernel_rfl) (fun _ _ _ h => hP _ _ _ _ _ h) (Or.inl ⟨by rfl, (by intro w hSw; (try dsimp only at hSw); go_simp)⟩) (by assumption) ?_
  simp only [Act.put, List.setIfInBounds_toArray, List.set_cons_zero, List.set_cons_succ]
  refine wpAnyH_done (by kernel_rfl) ?_ _
  exact hQ _ _ _ _ _ _ _ kk3
theorem scalar_tells {q n : Int} {ok b : Bool} {ns ds : List Int} (hw : WholeIs q b ns ds) (hq : -9223372036854775808 ≤ q ∧ q < 9223372036854775808) (ht : IntOf (arrT [] [numT b ns ds]) n ok) : n = q ∧ ok = true := by
  have hms : measI (measF 15) (numT b ns ds) = some (0, 0) := measI_num rfl ⟨hw.right, rfl, rfl⟩
  have hsc : measF 16 (arrT [] [numT b ns ds]) = some (0, 1) := meas_scalar (L := 15) (Or.inl rfl) hms
  rcases ht with ⟨_, hti⟩ | ⟨hneg, _⟩
  · rcases hti with ⟨_, h⟩ | ⟨hk, _⟩
    · have hsg := hw.sg.1
      rcases h with ⟨h1, h2, h3, h4, h5⟩ | ⟨h1, h2, h3⟩
      · exact ⟨h5.trans hsg, h1⟩
      · refine absurd ⟨⟨hw.right, hw.2.2.2.2⟩, ?_, ?_⟩ h3
        · show -9223372036854775808 ≤ sg b (val ns); rw [hsg]; exact hq.1
        · show sg b (val ns) < 9223372036854775808; rw [hsg]; exact hq.2
    · exact absurd rfl hk
  · exact absurd ⟨rfl, by rw [hsc]; rfl, by show ¬ (sizeF ([] : List Int)).1 = 0; decide⟩ hneg
set_option maxRecDepth 100000 in
set_option maxHeartbeats 16000000 in
theorem arrayInts_walk {w : World} {D : Nat → Prop} {a0 : Option Addr} {c0 : Nat} {l : List Int} (h : RdN D w (.slice a0 l.length c0) l) (hD : ∀ g, D g → g < w.heap.size) :
    Calls Try.prog 4 #[.slice a0 l.length c0] w fun e w' => e = .returned (.bool true) ∧ Below w.heap.size w w' := by
  have H : Hid (RdN D w (.slice a0 l.length c0) l) := h
  have HD : Hid (∀ g, D g → g < w.heap.size) := hD
  have HI : Hid (∀ x ∈ l, -9223372036854775808 ≤ x ∧ x ≤ 9223372036854775807) := h.1
  have bd := h.bounds
  have HLv : Hid LiveOK := live3_ok
  have C1 := ints_any h hD
  obtain ⟨ln, hln⟩ : ∃ ln, l.length = ln := ⟨_, rfl⟩
  have HLn : Hid (l.length = ln) := hln
  rw [hln] at C1 bd ⊢
  clear h hD hln
  go_enter Try.func4, Try.ntmps4
  go_wp2_with fail
  refine C1.mono ?_
  rintro e w1 ⟨z1, m1, u1, z2, m2, u2, rfl, hv, k1⟩
  clear C1
  have HV : Hid (ArV 1 (Fr w.heap.size w1.heap.size) w1 (.slice z1 m1 u1) (.slice z2 m2 u2) (vecT (wholeT 0) (l.map wholeT))) := hv
  clear hv
  have s1 := k1.size
  have BA := boxA_new w1 #[.slice z1 m1 u1, .slice z2 m2 u2] 25
  have kA := below_alloc w1 (.cells #[.slice z1 m1 u1, .slice z2 m2 u2] 25)
  have lA := BA.lt
  have k2 : Below w.heap.size w (w1.alloc (.cells #[.slice z1 m1 u1, .slice z2 m2 u2] 25)) := k1.trans (kA.mono s1)
  have v0 := BA.cell 0 rfl
  have v1 := BA.cell 1 rfl
  have C2 := toInts_vec (f := 0) (W := w1.alloc (.cells #[.slice z1 m1 u1, .slice z2 m2 u2] 25)) (D := Fr w.heap.size w1.heap.size) (fun g hg => by have := hg.2; omega) HI.out (HV.out.agree (fun q hq => kA.block q hq.2))
  obtain ⟨m, hm⟩ : ∃ m, (l.take 4096).length = m := ⟨_, rfl⟩
  rw [hm] at C2
  have HMl : Hid ((l.take 4096).length = m) := hm
  have hm4 : m ≤ 4096 := by rw [← hm, List.length_take]; omega
  have HMin : Hid (m = min 4096 ln) := by unfold Hid; rw [← hm, List.length_take, HLn.out]
  clear hm
  go_wp2_with fail
  generalize hA2 : w1.alloc (.cells #[.slice z1 m1 u1, .slice z2 m2 u2] 25) = w2 at *
  clear hA2
  refine C2.mono ?_
  rintro e w3 ⟨ab, cb, rfl, hbk, k3⟩
  clear C2 v0 v1
  have HBk : Hid (RdN (Fr w2.heap.size w3.heap.size) w3 (.slice ab m cb) (l.take 4096)) := hbk
  clear hbk
  have s3 := k3.size
  have ku : Below w.heap.size w w3 := k2.trans (k3.mono k2.size)
  have B3 := BA.below k3 lA
  have l3 := B3.lt
  have HC : Hid (∀ {w' : World}, Below w3.heap.size w3 w' → (w'.cell? ⟨w1.heap.size, 0, none⟩ = some (.slice z1 m1 u1) ∧ w'.cell? ⟨w1.heap.size, 1, none⟩ = some (.slice z2 m2 u2))) := fun k => ⟨(B3.below k l3).cell 0 rfl, (B3.below k l3).cell 1 rfl⟩
  have KI : KInts w3 (vecT (wholeT 0) (l.map wholeT)) a0 ln c0 := by
    intro w' k
    have kk : Below w.heap.size w w' := ku.trans (k.mono ku.size)
    have := refInts3_any (H.out.imp (fun _ h => h) (Agree.of kk HD.out)) (fun g hg => by have := HD.out g hg; have := kk.size; omega)
    rw [HLn.out] at this
    exact this
  have KS : KSame w3 (vecT (wholeT 0) (l.map wholeT)) z1 m1 u1 z2 m2 u2 := by
    intro w' s1 e1 f1 s2 e2 f2 B k hn
    have hsk := k.size
    exact same_all 1 (fun g => g < w'.heap.size) w' _ _ _ _ _ _ _ _ _ _ _ _ _ (fun g hg => hg) (ArV.imp (fun q hq => by have := hq.2; omega) (fun q hq => by rw [k.block q (by have := hq.2; omega), k3.block q (by have := hq.2; omega), kA.block q hq.2]) 1 1 _ _ _ (Nat.le_refl _) HV.out) (hn.mono (fun q hq => hq.2))
  go_upto_region 3 with fail
  by_cases hsm : ln ≤ 4096
  · obtain rfl : m = ln := by have := HMin.out; omega
    clear HMin
    refine wp_region_noPanic ?_
    refine ints_small (u := w3) (ba := w1.heap.size) (ln := m) (t := vecT (wholeT 0) (l.map wholeT)) (a0 := a0) (c0 := c0) (ab := ab) (cb := cb) (z1 := z1) (m1 := m1) (u1 := u1) (z2 := z2) (m2 := m2) (u2 := u2) HC HLv KI KS (by omega) ?q1 ?p1
    case p1 => exact fun _ _ _ _ _ h => h
    intro s1 e1 f1 s2 e2 f2 w5 kk
    refine NoPanic.normal ?_
    simp only [Exit.then]
    have k5 : Below w.heap.size w w5 := ku.trans (kk.mono ku.size)
    have hback : ∀ {w' : World}, Below w5.heap.size w5 w' → RdN (Fr w2.heap.size w3.heap.size) w' (.slice ab m cb) (l.take 4096) := fun k => HBk.out.imp (fun _ h => h) (fun q hq => by rw [k.block q (by have := hq.2; have := kk.size; omega), kk.block q hq.2])
    have HBack : Hid (∀ {w' : World}, Below w5.heap.size w5 w' → RdN (Fr w2.heap.size w3.heap.size) w' (.slice ab m cb) (l.take 4096)) := hback
    clear hback
    go_wp2_with fail
    go_loopw [6] (fun iv wr => ∃ i : Nat, iv = .int .i64 i ∧ i ≤ m ∧ Below w5.heap.size w5 wr) (fun iv _ => m - (intOf iv).toNat)
    case atStart => exact ⟨0, rfl, Nat.zero_le _, Below.refl _ _⟩
    case round =>
      obtain ⟨i, rfl, hil, kr⟩ := hrel
      have sr := kr.size
      have kwr : Below w.heap.size w wr := k5.trans (kr.mono k5.size)
      by_cases hlt : i < m
      · have hil2 : i < l.length := by have := HMl.out; rw [List.length_take] at this; omega
        obtain ⟨g1, o1, rfl, hg1, hc1⟩ := H.out.ptr (by omega)
        obtain ⟨q, hq⟩ : ∃ q, l.getD i 0 = q := ⟨_, rfl⟩
        have hq2 : (l.take 4096).getD i 0 = q := by
          rw [← hq, List.getD_eq_getElem?_getD, List.getElem?_take_of_lt (by have := HMl.out; rw [List.length_take] at this; omega), ← List.getD_eq_getElem?_getD]
        have hqi : -9223372036854775808 ≤ q ∧ q ≤ 9223372036854775807 := HI.out q (by rw [← hq, List.getD_eq_getElem?_getD, List.getElem?_eq_getElem hil2]; exact List.getElem_mem hil2)
        obtain ⟨hq0, hq1⟩ := hqi
        have lg := HD.out g1 hg1
        have ec : w.cell? ⟨g1, o1 + i, none⟩ = some (.int .i64 q) := by rw [← hq]; exact hc1 i hil2
        have E := (kwr.cell (p := ⟨g1, o1 + i, none⟩) lg).trans ec
        have HEc : Hid (w.cell? ⟨g1, o1 + i, none⟩ = some (.int .i64 q)) := ec
        have HQ2 : Hid ((l.take 4096).getD i 0 = q) := hq2
        clear hc1 hq hq2 ec
        have hle : (i : Int) < (l.length : Int) := by omega
        have hlm : (i : Int) < (m : Int) := by omega
        go_wp2_with fail
        refine (arrInt_any _ q hq0 (by omega)).mono ?_
        rintro e w6 ⟨b, ns, ds, HW, k, rfl, hN, k6⟩
        have C := toInt3_any (D := Fr wr.heap.size w6.heap.size) (fun g hg => hg.2) (numAt_arv hN)
        go_wp2_with fail
        refine C.mono ?_
        rintro e w7 ⟨n, ok, rfl, HT, k7⟩
        have hno := scalar_tells HW.out ⟨hq0, by omega⟩ HT.out
        obtain ⟨rfl, rfl⟩ := hno
        clear C hN HW HT
        have s6 := k6.size
        have s7 := k7.size
        have kr7 : Below w5.heap.size w5 w7 := (kr.trans (k6.mono sr)).trans (k7.mono (by omega))
        have kw7 : Below w.heap.size w w7 := k5.trans (kr7.mono k5.size)
        have E7 := (kw7.cell (p := ⟨g1, o1 + i, none⟩) lg).trans HEc.out
        have hB7 := HBack.out kr7
        have hl7 : (l.take 4096).length = m := HMl.out
        have hptr : ∃ g2 o2, ab = some ⟨g2, o2, none⟩ ∧ w7.cell? ⟨g2, o2 + i, none⟩ = some (.int .i64 n) := by
          rw [← hl7] at hB7
          obtain ⟨g2, o2, e, _, hc⟩ := hB7.ptr (by omega)
          exact ⟨g2, o2, e, by rw [hc i (by omega), HQ2.out]⟩
        obtain ⟨g2, o2, rfl, E8⟩ := hptr
        clear hB7 hl7 E
        go_wp2_with fail
        go_quiet (fail)
        go_wp2
        go_roundw
        case rel => exact ⟨i + 1, by go_num, by omega, (by first | exact kr7 | exact ⟨kr7.os, kr7.tape, kr7.output, kr7.size, kr7.block⟩)⟩
        case measure => simp [intOf]; omega
      · obtain rfl : i = m := by omega
        go_wp2
        go_ret
        exact ⟨rfl, kwr⟩
  refine wp_region_noPanic ?_
  refine ints_big (u := w3) (ba := w1.heap.size) (ln := ln) (m := m) (t := vecT (wholeT 0) (l.map wholeT)) (a0 := a0) (c0 := c0) (ab := ab) (cb := cb) (z1 := z1) (m1 := m1) (u1 := u1) (z2 := z2) (m2 := m2) (u2 := u2) HC HLv KI KS (by omega) (by omega) (by have := HMin.out; omega) ?q2 ?p2
  case p2 => exact fun _ _ _ _ _ h => h
  intro s1 e1 f1 s2 e2 f2 w5 kk
  refine NoPanic.normal ?_
  simp only [Exit.then]
  have k5 : Below w.heap.size w w5 := ku.trans (kk.mono ku.size)
  have hback : ∀ {w' : World}, Below w5.heap.size w5 w' → RdN (Fr w2.heap.size w3.heap.size) w' (.slice ab m cb) (l.take 4096) := fun k => HBk.out.imp (fun _ h => h) (fun q hq => by rw [k.block q (by have := hq.2; have := kk.size; omega), kk.block q hq.2])
  have HBack : Hid (∀ {w' : World}, Below w5.heap.size w5 w' → RdN (Fr w2.heap.size w3.heap.size) w' (.slice ab m cb) (l.take 4096)) := hback
  clear hback
  go_wp2_with fail
  go_loopw [6] (fun iv wr => ∃ i : Nat, iv = .int .i64 i ∧ i ≤ m ∧ Below w5.heap.size w5 wr) (fun iv _ => m - (intOf iv).toNat)
  case atStart => exact ⟨0, rfl, Nat.zero_le _, Below.refl _ _⟩
  case round =>
    obtain ⟨i, rfl, hil, kr⟩ := hrel
    have sr := kr.size
    have kwr : Below w.heap.size w wr := k5.trans (kr.mono k5.size)
    by_cases hlt : i < m
    · have hil2 : i < l.length := by have := HMl.out; rw [List.length_take] at this; omega
      obtain ⟨g1, o1, rfl, hg1, hc1⟩ := H.out.ptr (by omega)
      obtain ⟨q, hq⟩ : ∃ q, l.getD i 0 = q := ⟨_, rfl⟩
      have hq2 : (l.take 4096).getD i 0 = q := by
        rw [← hq, List.getD_eq_getElem?_getD, List.getElem?_take_of_lt (by have := HMl.out; rw [List.length_take] at this; omega), ← List.getD_eq_getElem?_getD]
      have hqi : -9223372036854775808 ≤ q ∧ q ≤ 9223372036854775807 := HI.out q (by rw [← hq, List.getD_eq_getElem?_getD, List.getElem?_eq_getElem hil2]; exact List.getElem_mem hil2)
      obtain ⟨hq0, hq1⟩ := hqi
      have lg := HD.out g1 hg1
      have ec : w.cell? ⟨g1, o1 + i, none⟩ = some (.int .i64 q) := by rw [← hq]; exact hc1 i hil2
      have E := (kwr.cell (p := ⟨g1, o1 + i, none⟩) lg).trans ec
      have HEc : Hid (w.cell? ⟨g1, o1 + i, none⟩ = some (.int .i64 q)) := ec
      have HQ2 : Hid ((l.take 4096).getD i 0 = q) := hq2
      clear hc1 hq hq2 ec
      have hle : (i : Int) < (l.length : Int) := by omega
      have hlm : (i : Int) < (m : Int) := by omega
      go_wp2_with fail
      refine (arrInt_any _ q hq0 (by omega)).mono ?_
      rintro e w6 ⟨b, ns, ds, HW, k, rfl, hN, k6⟩
      have C := toInt3_any (D := Fr wr.heap.size w6.heap.size) (fun g hg => hg.2) (numAt_arv hN)
      go_wp2_with fail
      refine C.mono ?_
      rintro e w7 ⟨n, ok, rfl, HT, k7⟩
      have hno := scalar_tells HW.out ⟨hq0, by omega⟩ HT.out
      obtain ⟨rfl, rfl⟩ := hno
      clear C hN HW HT
      have s6 := k6.size
      have s7 := k7.size
      have kr7 : Below w5.heap.size w5 w7 := (kr.trans (k6.mono sr)).trans (k7.mono (by omega))
      have kw7 : Below w.heap.size w w7 := k5.trans (kr7.mono k5.size)
      have E7 := (kw7.cell (p := ⟨g1, o1 + i, none⟩) lg).trans HEc.out
      have hB7 := HBack.out kr7
      have hl7 : (l.take 4096).length = m := HMl.out
      have hptr : ∃ g2 o2, ab = some ⟨g2, o2, none⟩ ∧ w7.cell? ⟨g2, o2 + i, none⟩ = some (.int .i64 n) := by
        rw [← hl7] at hB7
        obtain ⟨g2, o2, e, _, hc⟩ := hB7.ptr (by omega)
        exact ⟨g2, o2, e, by rw [hc i (by omega), HQ2.out]⟩
      obtain ⟨g2, o2, rfl, E8⟩ := hptr
      clear hB7 hl7 E
      go_wp2_with fail
      go_quiet (fail)
      go_wp2
      go_roundw
      case rel => exact ⟨i + 1, by go_num, by omega, (by first | exact kr7 | exact ⟨kr7.os, kr7.tape, kr7.output, kr7.size, kr7.block⟩)⟩
      case measure => simp [intOf]; omega
    · obtain rfl : i = m := by omega
      go_wp2
      go_ret
      exact ⟨rfl, kwr⟩
end Go.Proofs.Ytnkaimkdlpieaaa
