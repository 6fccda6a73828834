/- law12.DefineLabels. -/
import Derived.Test.YtjehbnpamahepaaGreatDoorDF
namespace Go.Proofs.YtjehbnpamahepaaGreatDoor
set_option linter.unusedVariables false
set_option linter.unusedSimpArgs false
open Go.RowKit Go.Shelf

theorem makeF_ok {ne : ByteArray → Int} {ss : List ByteArray} {h : Hd} {ls : List ByteArray} {ats : List Int} (e : makeF ne ss = .inr (h, ls, ats)) : AtOK ne (ss.drop 1) (ss.drop 1).length ls ats := by
  cases ss with
  | nil => rw [makeF] at e; cases e
  | cons s r =>
    rw [makeF] at e
    by_cases hl : 255 < r.length
    · rw [if_pos hl] at e; cases e
    · rw [if_neg hl] at e
      cases hh : headerF ne s with
      | none => rw [hh] at e; cases e
      | some h' =>
        rw [hh] at e
        cases hg : goF ne r 0 (takeF [] h'.all).2 [] [] with
        | inl n => simp only [hg] at e; cases e
        | inr p =>
          simp only [hg] at e
          obtain ⟨l', a'⟩ := p
          cases e
          exact goF_ok (rs := r) r.length 0 _ [] [] _ _ (by omega) ⟨rfl, fun j hj => by simp at hj, fun j hj => by simp at hj⟩ (by rw [List.drop_zero]; exact hg)
/-- What a label's line is. -/
theorem at_is {ne : ByteArray → Int} {ss ls : List ByteArray} {ats : List Int} (h : AtOK ne (ss.drop 1) (ss.drop 1).length ls ats) {j : Nat} (hj : j < ats.length) : ∃ k : Nat, ats.getD j 0 = (k : Int) ∧ 1 ≤ k ∧ k < ss.length ∧ (labF ne (ss.getD k noT)).2.size < (ss.getD k noT).size := by
  obtain ⟨k, e, h1, h2, h3⟩ := h.2.1 j hj
  rw [List.length_drop] at h2
  refine ⟨k + 1, by rw [e]; rfl, by omega, by omega, labF_less ?_⟩
  rw [show (ss.drop 1).getD k noT = ss.getD (k + 1) noT by simp [List.getD_eq_getElem?_getD, Nat.add_comm]] at h3
  exact h3
set_option maxRecDepth 100000 in
set_option maxHeartbeats 32000000 in
theorem defineLabels_walk {B : Nat} {w : World} {a : Option Addr} {c : Nat} {ss : List ByteArray} (h : RdS B w (.slice a ss.length c) ss) (hB : B ≤ w.heap.size) (hsz : ∀ x ∈ ss, x.size ≤ 9223372036854775807) :
    Calls Tryz.prog 5 #[.slice a ss.length c] w fun e w' => e = .returned (.bool true) ∧ Below w.heap.size w w' := by
  obtain ⟨ne, hne⟩ := tellsErr_ex
  obtain ⟨hc1, hc2⟩ := h.cap
  have HR : Hid (RdS B w (.slice a ss.length c) ss) := h
  have HSZ : Hid (∀ x ∈ ss, x.size ≤ 9223372036854775807) := hsz
  have C1 := fnMake_any hne h hB hsz
  obtain ⟨o, ho⟩ : ∃ o, o = makeF ne ss := ⟨_, rfl⟩
  rw [← ho] at C1
  have HO : Hid (o = makeF ne ss) := ho
  have HC1 : Hid (Calls Tryz.prog 7 _ w _) := C1
  clear C1 h hsz ho
  go_enter Tryz.func5, Tryz.ntmps5
  go_wp2_with fail
  refine HC1.out.mono ?_
  rintro e w1 ⟨hcase, k1⟩
  have s1 := k1.size
  clear HC1
  rcases hcase with ⟨n, hh, rfl⟩ | ⟨h, ls, ats, a1, c1, a2, c2, a3, c3, a4, c4, hh, rfl, oC, oL, oA, oS⟩
  case inl =>
    clear hh HO HR HSZ
    go_upto_region 2 with fail
    have k2 := below_alloc w1 (.cells fn0 25)
    have g2 : Below w.heap.size w (w1.alloc (.cells fn0 25)) := k1.trans (k2.mono s1)
    generalize hW2 : w1.alloc (.cells fn0 25) = w2 at *
    clear hW2 k2
    go_wp2_with fail
    refine (live12_ok w2).mono ?_
    rintro e w3 ⟨rfl, k3⟩
    have g3 : Below w.heap.size w w3 := g2.trans (k3.mono g2.size)
    go_wp2
    go_ret
    exact ⟨rfl, g3⟩
  have hok : AtOK ne (ss.drop 1) (ss.drop 1).length ls ats := makeF_ok (h := h) (by rw [← HO.out]; exact hh)
  have HOK : Hid (AtOK ne (ss.drop 1) (ss.drop 1).length ls ats) := hok
  have HLL : Hid (ls.length = ats.length) := hok.1
  obtain ⟨nm, rs, lf, rt, lo⟩ := h
  simp only at oC ⊢
  clear hh HO hok oC oL
  go_upto_region 2 with fail
  have k2 := below_alloc w1 (.cells (fnV nm rs lf rt (.slice a1 lo.length c1) (.slice a2 ls.length c2) (.slice a3 ats.length c3) (.slice a4 ss.length c4) false) 25)
  have N2 := boxA_new w1 (fnV nm rs lf rt (.slice a1 lo.length c1) (.slice a2 ls.length c2) (.slice a3 ats.length c3) (.slice a4 ss.length c4) false) 25
  have g2 : Below w.heap.size w (w1.alloc (.cells (fnV nm rs lf rt (.slice a1 lo.length c1) (.slice a2 ls.length c2) (.slice a3 ats.length c3) (.slice a4 ss.length c4) false) 25)) := k1.trans (k2.mono s1)
  have HA2 : Hid (OwI w.heap.size (w1.alloc (.cells (fnV nm rs lf rt (.slice a1 lo.length c1) (.slice a2 ls.length c2) (.slice a3 ats.length c3) (.slice a4 ss.length c4) false) 25)) (.slice a3 ats.length c3) ats) := oA.alloc _
  have HS2 : Hid (OwS w.heap.size (w1.alloc (.cells (fnV nm rs lf rt (.slice a1 lo.length c1) (.slice a2 ls.length c2) (.slice a3 ats.length c3) (.slice a4 ss.length c4) false) 25)) (.slice a4 ss.length c4) ss) := oS.alloc _
  have s2 : w1.heap.size < (w1.alloc (.cells (fnV nm rs lf rt (.slice a1 lo.length c1) (.slice a2 ls.length c2) (.slice a3 ats.length c3) (.slice a4 ss.length c4) false) 25)).heap.size := by simp
  generalize hW2 : w1.alloc (.cells (fnV nm rs lf rt (.slice a1 lo.length c1) (.slice a2 ls.length c2) (.slice a3 ats.length c3) (.slice a4 ss.length c4) false) 25) = w2 at *
  clear hW2 k2 oA oS k1
  go_wp2
  go_loopw [6] (fun iv wr => ∃ i : Nat, iv = .int .i64 i ∧ i ≤ ls.length ∧ Below w2.heap.size w2 wr) (fun iv _ => ls.length - (intOf iv).toNat)
  case atStart => exact ⟨0, rfl, Nat.zero_le _, Below.refl _ _⟩
  case round =>
    obtain ⟨i, rfl, hil, kr⟩ := hrel
    have sr := kr.size
    have Nr := N2.below kr s2
    have gr : Below w.heap.size w wr := g2.trans (kr.mono g2.size)
    have r0 := Nr.cell 0 rfl
    have r1 := Nr.cell 1 rfl
    have r2 := Nr.cell 2 rfl
    have r3 := Nr.cell 3 rfl
    have r4 := Nr.cell 4 rfl
    have r5 := Nr.cell 5 rfl
    have r6 := Nr.cell 6 rfl
    have r7 := Nr.cell 7 rfl
    have r8 := Nr.cell 8 rfl
    by_cases hlt : i < ls.length
    case neg =>
      have hAr : wr.heap.size = wr.heap.size := rfl
      have el : ((ls.length : Int) == (ats.length : Int)) = true := by rw [HLL.out]; simp
      clear HLL HOK
      go_wp2_with fail
      refine (live12_ok wr).mono ?_
      rintro e w3 ⟨rfl, k3⟩
      have g3 : Below w.heap.size w w3 := gr.trans (k3.mono gr.size)
      have N3 := Nr.below k3 (by omega)
      have n5 := N3.cell 5 rfl
      have n6 := N3.cell 6 rfl
      have n7 := N3.cell 7 rfl
      go_wp2
      go_ret
      exact ⟨rfl, g3⟩
    have hia : i < ats.length := by have := HLL.out; omega
    obtain ⟨k, hk, hk1, hk2, hk3⟩ := at_is HOK.out hia
    obtain ⟨ga, rfl, hA1, hA2, hA3⟩ := row_ptrS HA2.out (by omega)
    have hcellA : ∀ {W : World}, Below w2.heap.size w2 W → ∀ j, j < ats.length → W.cell? ⟨ga, j, none⟩ = some (.int .i64 (ats.getD j 0)) := fun hb j hj => by
      rw [hb.cell (p := ⟨ga, j, none⟩) hA3, World.ownsRow.cellAt HA2.out j (by omega), List.getElem?_map, List.getElem?_eq_getElem hj, List.getD_eq_getElem?_getD, List.getElem?_eq_getElem hj]
      rfl
    have qi := hcellA kr i hia
    rw [hk] at qi
    have HP : Hid (0 < i → ∃ p : Nat, wr.cell? ⟨ga, i - 1, none⟩ = some (.int .i64 (p : Int)) ∧ p < k) := by
      intro h0
      obtain ⟨p, hp, _⟩ := at_is HOK.out (show i - 1 < ats.length by omega)
      have := HOK.out.2.2 (i - 1) (by omega)
      rw [show i - 1 + 1 = i by omega, hp, hk] at this
      exact ⟨p, by rw [hcellA kr (i - 1) (by omega), hp], by omega⟩
    obtain ⟨g, og, rfl, hg, hcell⟩ := HR.out.ptr (by omega)
    have hgr : g < wr.heap.size := by have := gr.size; omega
    have qx0 := (gr.cell (p := ⟨g, og + k, none⟩) (by show g < _; omega)).trans (hcell k hk2)
    have CB := fun (W : World) (kb : Below wr.heap.size wr W) => body_any (w := W) hne (nm := nm) (rs := rs) (lf := lf) (rt := rt) (v1 := .bool true) (v2 := .bool true) (v3 := .bool true) (a1 := a1) (a2 := a2) (a3 := some ⟨ga, 0, none⟩) (n1 := lo.length) (n2 := ls.length) (n3 := ats.length) (c1 := c1) (c2 := c2) (c3 := c3) (((RdS.of_row HS2.out).below kr (Nat.le_refl _)).below kb (by omega)) (by have := kb.size; omega) HSZ.out k hk1 hk2
    obtain ⟨x, hx⟩ : ∃ x, x = ss.getD k noT := ⟨_, rfl⟩
    rw [← hx] at qx0 hk3 CB
    obtain ⟨L, hL⟩ : ∃ L, L = labF ne x := ⟨_, rfl⟩
    rw [← hL] at hk3 CB
    have HCB : Hid (∀ (W : World), Below wr.heap.size wr W → Calls Tryz.prog 15 _ W _) := CB
    have m1 : ¬ (k : Int) < 1 := by omega
    have m2 : ¬ (ss.length : Int) ≤ (k : Int) := by omega
    have m3 : (k : Int) < (ss.length : Int) := by omega
    have e1 : decide ((k : Int) < 1) = false := decide_eq_false (by omega)
    have e2 : decide (ss.length ≤ k) = false := decide_eq_false (by omega)
    have m4 : ¬ (x.size : Int) ≤ (L.2.size : Int) := by omega
    have i1 : (i : Int) < (ats.length : Int) := by omega
    have hiM : (i : Int) + 1 ≤ 9223372036854775807 := by omega
    have HHK : Hid (hk1 = hk1) := rfl
    clear hk hcellA hcell CB hx hL HOK HLL hk3 HHK
    rcases Nat.eq_zero_or_pos i with hi0 | hi0
    case' inl =>
      have m5 : ¬ (0 : Int) < (i : Int) := by omega
      have e5 : decide (0 < i) = false := decide_eq_false (by omega)
    case' inr =>
      obtain ⟨p, qp, hpk⟩ := HP.out hi0
      have m5 : (0 : Int) < (i : Int) := by omega
      have m6 : ¬ (k : Int) ≤ (p : Int) := by omega
      have e5 : decide (0 < i) = true := decide_eq_true hi0
      have e6 : decide (k ≤ p) = false := decide_eq_false (by omega)
      have hi1 : 1 ≤ i := hi0
      have m7 : (i : Int) - 1 = ((i - 1 : Nat) : Int) := by omega
      have m8 : ((i - 1 : Nat) : Int) < (ats.length : Int) := by omega
    all_goals
      clear HP hi0
      go_wp2_with fail
      go_quiet (fail)
      have kq : Below wr.heap.size wr (wr.drewN nq) := below_drewN' (Below.refl _ _) nq
      have sq : wr.heap.size ≤ (wr.drewN nq).heap.size := kq.size
      generalize wr.drewN nq = wq at *
      have Nq := Nr.below kq (by omega)
      have qq := (kq.cell (p := ⟨ga, i, none⟩) (by show ga < _; omega)).trans qi
      have hcells : ∀ {w' : World}, Below wq.heap.size wq w' → w'.cell? ⟨w1.heap.size, 0, none⟩ = some (.string nm) ∧ w'.cell? ⟨w1.heap.size, 1, none⟩ = some (.string rs) ∧ w'.cell? ⟨w1.heap.size, 2, none⟩ = some (.string lf) ∧ w'.cell? ⟨w1.heap.size, 3, none⟩ = some (.string rt) ∧ w'.cell? ⟨w1.heap.size, 4, none⟩ = some (.slice a1 lo.length c1) ∧ w'.cell? ⟨w1.heap.size, 5, none⟩ = some (.slice a2 ls.length c2) ∧ w'.cell? ⟨w1.heap.size, 6, none⟩ = some (.slice (some ⟨ga, 0, none⟩) ats.length c3) ∧ w'.cell? ⟨w1.heap.size, 7, none⟩ = some (.slice a4 ss.length c4) ∧ w'.cell? ⟨w1.heap.size, 8, none⟩ = some (.bool false) ∧ w'.cell? ⟨ga, i, none⟩ = some (.int .i64 (k : Int)) := fun hb => by
        have F2 := Nq.below hb (by omega)
        exact ⟨F2.cell 0 rfl, F2.cell 1 rfl, F2.cell 2 rfl, F2.cell 3 rfl, F2.cell 4 rfl, F2.cell 5 rfl, F2.cell 6 rfl, F2.cell 7 rfl, F2.cell 8 rfl, (hb.cell (p := ⟨ga, i, none⟩) (by show ga < _; omega)).trans qq⟩
      obtain ⟨t0, t1, t2, t3, t4, t5, t6, t7, t8, t9⟩ := hcells (Below.refl _ _)
      have d1 : Below wq.heap.size wq wq.drew := ⟨rfl, rfl, rfl, Nat.le_refl _, fun _ _ => rfl⟩
      have d2 : Below wr.heap.size wr wq.drew := kq.trans (d1.mono kq.size)
      have qx1 := (kq.cell (p := ⟨g, og + k, none⟩) hgr).trans qx0
      clear r0 r1 r2 r3 r4 r5 r6 r7 r8
      go_wp2_with fail
      go_region_held3 (fun w' => w'.cell? ⟨w1.heap.size, 0, none⟩ = some (.string nm) ∧ w'.cell? ⟨w1.heap.size, 1, none⟩ = some (.string rs) ∧ w'.cell? ⟨w1.heap.size, 2, none⟩ = some (.string lf) ∧ w'.cell? ⟨w1.heap.size, 3, none⟩ = some (.string rt) ∧ w'.cell? ⟨w1.heap.size, 4, none⟩ = some (.slice a1 lo.length c1) ∧ w'.cell? ⟨w1.heap.size, 5, none⟩ = some (.slice a2 ls.length c2) ∧ w'.cell? ⟨w1.heap.size, 6, none⟩ = some (.slice (some ⟨ga, 0, none⟩) ats.length c3) ∧ w'.cell? ⟨w1.heap.size, 7, none⟩ = some (.slice a4 ss.length c4) ∧ w'.cell? ⟨w1.heap.size, 8, none⟩ = some (.bool false) ∧ w'.cell? ⟨ga, i, none⟩ = some (.int .i64 (k : Int))) (first | (go_keep; done) | exact tw)
        (first | (go_at_call 15; refine (HCB.out wq.drew d2).mono ?_; rintro e w3 ⟨rfl, k3⟩; have g3 : Below wq.heap.size wq w3 := below_undrew k3; have tw := hcells g3))
      all_goals
        have s3 := g3.size
        have N3 := Nq.below g3 (by omega)
        have r6 := N3.cell 6 rfl
        have q3 := (g3.cell (p := ⟨ga, i, none⟩) (by show ga < _; omega)).trans qq
        have q4 := (g3.cell (p := ⟨g, og + k, none⟩) (by show g < _; omega)).trans qx1
        have kf : Below w2.heap.size w2 w3 := (kr.trans (kq.mono sr)).trans (g3.mono (by omega))
        (try clear m7 m8 m6 e6 qp hpk)
        clear m1 m2 m5 e1 e2 e5 HR HSZ HA2 HS2 Nr N2 Nq d1 d2 kq qq qx0 qx1 gr hne
        have hw : IntKind.i64.wrap ((i : Int) + 1) = (i : Int) + 1 := by rw [IntKind.wrap_i64]; omega
        clear hiM hA2
        clear tw t0 t1 t2 t3 t4 t5 t6 t7 t8 t9 hcells HCB
        go_wp2
        go_roundw
        case rel => exact ⟨i + 1, by go_num, by omega, kf⟩
        case measure => simp [intOf]; omega
end Go.Proofs.YtjehbnpamahepaaGreatDoor
