/- (*divider).by where the divisor has two limbs or more, and no more than the number: long division. -/
import Derived.Test.YtibciilhfpgjjadDoorLongMath
namespace Go.Proofs.YtibciilhfpgjjadDoor
set_option linter.unusedVariables false
set_option linter.unusedSimpArgs false
open Go.RowKit

theorem Own.keep2 {base : Nat} {w w' : World} {v : Value} {xs : List Int} {B : Nat} (h : Own base w v xs) (k : Kept2 w w' B none) (hne : v.ownBlock ≠ some B) : Own base w' v xs := by
  obtain ⟨hl, h1, h | ⟨g, cap, cur, hv, hg, hh, r⟩⟩ := h
  · exact ⟨hl, h1, Or.inl h⟩
  · refine ⟨hl, h1, Or.inr ⟨g, cap, cur, hv, hg, ?_, r⟩⟩
    rw [k.block g (lt_of_block hh) (fun e => hne (by rw [hv, e]; rfl)) (fun e => by cases e)]
    exact hh
theorem Box.keep2 {w w' : World} {B b ty : Nat} {v : Value} (h : Box w b ty v) (k : Kept2 w w' B none) (hne : b ≠ B) : Box w' b ty v := by
  unfold Box
  rw [k.block b (lt_of_block h) hne (fun e => by cases e)]
  exact h
/-- What was kept but block g, which is new since, was kept of the earlier world. -/
theorem Kept2.new {a w w' : World} {B g : Nat} (h : Kept2 a w B none) (k : Kept2 w w' g none) (hg : a.heap.size ≤ g) : Kept2 a w' B none :=
  ⟨k.os.trans h.os, k.tape.trans h.tape, k.output.trans h.output, Nat.le_trans h.size k.size, fun i hi hB hr => (k.block i (Nat.lt_of_lt_of_le hi h.size) (by omega) hr).trans (h.block i hi hB hr)⟩
theorem Kept2.grow {a w w' : World} {B : Nat} (h : Kept2 a w B none) (k : Below w.heap.size w w') : Kept2 a w' B none :=
  ⟨k.os.trans h.os, k.tape.trans h.tape, k.output.trans h.output, Nat.le_trans h.size k.size, fun i hi hB hr => (k.block i (Nat.lt_of_lt_of_le hi h.size)).trans (h.block i hi hB hr)⟩
theorem Kept2.setNew {a w : World} {B g : Nat} (h : Kept2 a w B none) (hg : a.heap.size ≤ g) (o : Nat) (u : Value) : Kept2 a (w.setCell ⟨g, o, none⟩ u) B none :=
  h.new (Kept2.setCell (Kept2.refl w g none) (p := ⟨g, o, none⟩) (Or.inl rfl) u) hg

/-- What (*divider).by leaves of xs by ys, where nothing but its variable (block B) and a row r has turned; what is left lies in the row R or in a new one. -/
def Divides2 (base : Nat) (w : World) (B ty : Nat) (r R : Option Nat) (xs ys : List Int) (e : Ending) (w' : World) : Prop :=
  ∃ qs rs a c a2 c2, e = .returned (.slice a qs.length c) ∧ Own base w' (.slice a qs.length c) qs ∧ can qs ∧ can rs ∧ Box w' B ty (.slice a2 rs.length c2) ∧ Own base w' (.slice a2 rs.length c2) rs ∧ val xs = val qs * val ys + val rs ∧ val rs < val ys ∧ qs.length ≤ xs.length ∧ rs.length ≤ xs.length ∧ rs.length ≤ ys.length ∧ (∀ k, (Value.slice a2 rs.length c2).ownBlock = some k → some k = R ∨ w.heap.size ≤ k) ∧ Kept2 w w' B r

set_option maxRecDepth 100000 in
set_option maxHeartbeats 4000000 in
theorem by_long {base B ty m L c bc : Nat} {w : World} {a ba : Option Addr} {xs ys : List Int} (hty : ty ≠ 51) (hxl : Hid (xs.length = L)) (hyl : Hid (ys.length = m + 2)) (hbox : Box w B ty (.slice a L c)) (hown : Own base w (.slice a L c) xs) (hBb : base ≤ B) (hbs : base ≤ w.heap.size)
    (cy : can ys) (hL : m + 2 ≤ L) (hn : L ≤ 17592186044415)
    (hb : ∃ g o, ba = some ⟨g, o, none⟩ ∧ g < w.heap.size ∧ ∀ j, j < m + 2 → w.cell? ⟨g, o + j, none⟩ = some (.int .u32 (ys.getD j 0))) :
    Calls Tryd.prog 74 #[.pointer (some ⟨B, 0, none⟩), .slice ba (m + 2) bc] w fun e w' => Divides2 base w B ty none (Value.slice a L c).ownBlock xs ys e w' := by
  obtain ⟨i0, hi, hz0, hz1, hz2⟩ := info_parts info_u32
  obtain ⟨g, o, rfl, hg, hcb⟩ := hb
  obtain ⟨N, hN⟩ : ∃ N, N + (m + 2) = L + 1 := ⟨L + 1 - (m + 2), by omega⟩
  have hc := cell_of_one hbox
  have hBlt := lt_of_block hbox
  have lx := hown.lim
  have hct := hcb (m + 1) (by omega)
  have rt := lim_getD cy.1 (m + 1)
  have ht0 : ¬ ys.getD (m + 1) 0 = 0 := by
    rcases cy.2 with h | h
    · have := hyl.out; omega
    · rw [hyl.out] at h; simpa using h
  have hbits := bitLen_is (ys.getD (m + 1) 0).toNat (by omega)
  rw [Int.toNat_of_nonneg rt.1] at hbits
  have hb32 : Lib.bitLen (ys.getD (m + 1) 0).toNat ≤ 32 := by
    rcases hbits with ⟨h, _⟩ | ⟨h1, h2, h3⟩
    · exact absurd h ht0
    · by_cases hh : Lib.bitLen (ys.getD (m + 1) 0).toNat ≤ 32
      · exact hh
      · have := p2_mono (j := 32) (k := Lib.bitLen (ys.getD (m + 1) 0).toNat - 1) (by omega)
        have k2 : p2 32 = 4294967296 := by decide
        omega
  have hb1 : 1 ≤ Lib.bitLen (ys.getD (m + 1) 0).toNat := by
    rcases hbits with ⟨h, _⟩ | ⟨h1, h2, h3⟩
    · exact absurd h ht0
    · exact h1
  have hlz := Tryd.bits_LeadingZeros32 (ys.getD (m + 1) 0) w rt.1 (by omega)
  have hts := top_shift _ _ _ hbits ht0 hb32 rfl
  obtain ⟨s, hs⟩ : ∃ s : Nat, s = 32 - Lib.bitLen (ys.getD (m + 1) 0).toNat := ⟨_, rfl⟩
  rw [← hs] at hts
  have es : (32 : Int) - (Lib.bitLen (ys.getD (m + 1) 0).toNat : Int) = (s : Int) := by omega
  rw [es] at hlz
  have hs31 : s ≤ 31 := by omega
  clear hbits hb32 hb1 hs es ht0
  generalize hT : ys.getD (m + 1) 0 = t at *
  have HTS : Hid (2147483648 ≤ ys.getD (m + 1) 0 * 2 ^ s ∧ (ys.getD (m + 1) 0 + 1) * 2 ^ s ≤ 4294967296) := by unfold Hid; rw [hT]; exact hts
  clear hT hts
  have hc0 : (0 : Int) < 2 ^ s := Int.pow_pos (by omega)
  have e1 : (((m + 2 : Nat) : Int) - 1) = ((m + 1 : Nat) : Int) := by omega
  have t1 : (((m + 2 : Nat) : Int) == 1) = false := by simp; omega
  have hup1 := shiftedUp_walk (a := some ⟨g, o, none⟩) (ac := bc) (n := m + 2) (w := w) s hs31 hyl cy.1 (by omega) (fun _ => ⟨g, o, rfl, hg, hcb⟩)
  have HCB : Hid (∀ j, j < m + 2 → w.cell? ⟨g, o + j, none⟩ = some (.int .u32 (ys.getD j 0))) := hcb
  clear hcb
  go_enter Tryd.func74, Tryd.ntmps74
  go_wp2_with fail
  refine hlz.mono ?_
  rintro e w' ⟨rfl, hw⟩
  have hw := hw.symm
  subst hw
  go_wp2_with fail
  refine hup1.mono ?_
  rintro e w1 ⟨zs1, rfl, hz1l, hz1v, hown1, hbl1⟩
  have sz1 := hbl1.size
  have g1lt := hown1.lt hz1l
  have hd := shifted_divisor ys zs1 m (2 ^ s) hc0 cy.1 hown1.lim hyl.out hz1l hz1v HTS.out.1 HTS.out.2
  have lb : lim (zs1.take (m + 2)) := lim_take hown1.lim _
  have lbl : (zs1.take (m + 2)).length = m + 2 := by simp; omega
  have hcell1 : ∀ i, i < m + 2 → w1.cell? ⟨w.heap.size, 0 + i, none⟩ = some (.int .u32 ((zs1.take (m + 2)).getD i 0)) := by
    intro i hi
    have := hown1.cellAt hz1l i (by omega)
    rw [Nat.zero_add, this]
    have e : (zs1.take (m + 2)).getD i 0 = zs1.getD i 0 := by simp only [List.getD, List.getElem?_take]; rw [if_pos (by omega)]
    rw [e]
  generalize zs1.take (m + 2) = bs at *
  have HD : Hid (val bs = val ys * 2 ^ s ∧ 2147483648 ≤ bs.getD (m + 1) 0) := hd
  have HCELL : Hid (∀ i, i < m + 2 → w1.cell? ⟨w.heap.size, 0 + i, none⟩ = some (.int .u32 (bs.getD i 0))) := hcell1
  have HLBL : Hid (bs.length = m + 2) := lbl
  clear hd hcell1 lbl hz1v hz1l hown1 hct hlz hup1
  have hbox1 : Box w1 B ty (.slice a L c) := by unfold Box; rw [hbl1.block B hBlt]; exact hbox
  have hown1 : Own base w1 (.slice a L c) xs := hown.below hbl1 (Nat.le_refl _)
  have hc1 := cell_of_one hbox1
  obtain ⟨_, a', c', ev, _, _, _, kx⟩ := hown1.rd
  have hup2 := shiftedUp_walk (a := a) (ac := c) (n := L) (w := w1) s hs31 hxl lx (by omega) (by
    intro h0
    cases ev
    rcases kx with kx | ⟨b, off, ha, hbB, hcc⟩
    · have := hxl.out; omega
    · exact ⟨b, off, ha, hbB, fun j hj => hcc j (by rw [hxl.out]; exact hj)⟩)
  clear kx ev
  go_wp2_with fail
  refine hup2.mono ?_
  rintro e w2 ⟨vs0, rfl, hv0l, hv0v, hown2, hbl2⟩
  clear hup2
  have sz2 := hbl2.size
  have g2lt := hown2.lt hv0l
  have hbox2 : Box w2 B ty (.slice a L c) := by unfold Box; rw [hbl2.block B (by omega)]; exact hbox1
  have hc2 := cell_of_one hbox2
  have hf2 := free_of_one hbox2
  have HV0L : Hid (vs0.length = L + 1) := hv0l
  have HV0V : Hid (val vs0 = val xs * 2 ^ s) := hv0v
  have hk2 : Kept2 w w2 B none := ((Kept2.refl w B none).grow hbl1).grow hbl2
  have hbox3 : Box (w2.setCell ⟨B, 0, none⟩ (.slice (some ⟨w1.heap.size, 0, none⟩) (L + 1) (L + 1))) B ty (.slice (some ⟨w1.heap.size, 0, none⟩) (L + 1) (L + 1)) := one_setCell hbox2
  have hc3 := cell_of_one hbox3
  clear hv0l hv0v hc hc1 hbox hown hbox1 hown1
  go_wp2_with (at_make; refine wpList_make_full _ rfl _ _ 22 rfl base 51 i0 (.int .u32 0) 1 Tryd.underlying22 hi hz0 hz1 _ _ _ _ N rfl rfl ?b0 ?b1 ?b2 ?b3 ?b4 ?_)
  case b0 => omega
  case b1 => omega
  case b2 => rw [hz2]; omega
  case b3 => unfold maxLen; omega
  case b4 => simp; omega
  intro w3 hown3' hgrow3
  have hO3 := own_made hown3'
  clear hown3'
  have hb3 : Below w2.heap.size (w2.setCell ⟨B, 0, none⟩ (.slice (some ⟨w1.heap.size, 0, none⟩) (L + 1) (L + 1))) w3 := (Below.refl _ _).grown hgrow3 (by simp) (fun k h => by cases h)
  have sz3 : w2.heap.size ≤ w3.heap.size := by have := hb3.size; simpa using this
  have g3lt := hO3.lt (by simp)
  have hkS : Kept2 w (w2.setCell ⟨B, 0, none⟩ (.slice (some ⟨w1.heap.size, 0, none⟩) (L + 1) (L + 1))) B none := hk2.setCell (Or.inl rfl) _
  have hk3 : Kept2 w w3 B none := hkS.grow (hb3.mono (by simp))
  have hbox4 : Box w3 B ty (.slice (some ⟨w1.heap.size, 0, none⟩) (L + 1) (L + 1)) := by unfold Box; rw [hb3.block B (by omega)]; exact hbox3
  have hown2' : Own base w2 (.slice (some ⟨w1.heap.size, 0, none⟩) (L + 1) (L + 1)) vs0 := hown2.mono (by omega)
  have hown4 : Own base w3 (.slice (some ⟨w1.heap.size, 0, none⟩) (L + 1) (L + 1)) vs0 := (hown2'.setCell (own_box_ne hbox2 hown2' hty) _).below hb3 (by simp)
  have hcell3 : Hid (∀ i, i < m + 2 → w3.cell? ⟨w.heap.size, 0 + i, none⟩ = some (.int .u32 (bs.getD i 0))) := by
    intro i hi
    rw [← HCELL.out i hi, hb3.cell (p := ⟨w.heap.size, 0 + i, none⟩) (by show w.heap.size < w2.heap.size; omega)]
    have k1 : Kept2 w2 (w2.setCell ⟨B, 0, none⟩ (.slice (some ⟨w1.heap.size, 0, none⟩) (L + 1) (L + 1))) B none := (Kept2.refl _ _ _).setCell (Or.inl rfl) _
    rw [k1.cell (show w.heap.size < w2.heap.size by omega) (by omega)]
    exact hbl2.cell (p := ⟨w.heap.size, 0 + i, none⟩) g1lt
  have hstart := long_start xs ys vs0 (m + 2) L (2 ^ s) hc0 lx hown2.lim cy hxl.out hyl.out (by omega) hL HV0L.out HV0V.out
  have hbp : val bs ≤ pw (m + 2) := by
    have := (val_bound lb).2
    rw [HLBL.out] at this; omega
  have hbp0 : 0 < val bs := by
    rw [HD.out.1]
    have h1 := can_low cy (by rw [hyl.out]; omega)
    have h2 := pw_pos (ys.length - 1)
    exact Int.mul_pos (by omega) hc0
  have HBP : Hid (0 < val bs ∧ val bs ≤ pw (m + 2)) := ⟨hbp0, hbp⟩
  rw [show L + 1 - (m + 2) = N by omega, ← HD.out.1] at hstart
  have HSTART : Hid (val (vs0.drop N) < val bs) := hstart
  clear hstart hbp hbp0 hgrow3 hc2 hc3 hf2 hbox2 hbox3 hkS hown2 hown2' hk2 hb3
  have hc4 := cell_of_one hbox4
  go_wp2
  go_loopw [9] (fun r wr => ∃ (j : Nat) (vs qs : List Int), j ≤ N ∧ r = .int .i64 ((j : Int) - 1) ∧ Hid (vs.length = L + 1) ∧ Hid (qs.length = N) ∧ Own base wr (.slice (some ⟨w1.heap.size, 0, none⟩) (L + 1) (L + 1)) vs ∧ Own base wr (.slice (some ⟨w2.heap.size, 0, none⟩) N N) qs ∧ Box wr B ty (.slice (some ⟨w1.heap.size, 0, none⟩) (L + 1) (L + 1)) ∧ Kept2 w wr B none ∧
      Hid (∀ i, i < m + 2 → wr.cell? ⟨w.heap.size, 0 + i, none⟩ = some (.int .u32 (bs.getD i 0))) ∧ Hid (val vs0 = val vs + val qs * val bs) ∧ Hid (val (vs.drop j) < val bs) ∧ Hid (∀ k, k < j → qs.getD k 0 = 0))
    (fun r _ => (intOf r + 1).toNat)
  case atStart => exact ⟨N, vs0, List.replicate N 0, Nat.le_refl _, by go_num, HV0L, by unfold Hid; simp, hown4, hO3, hbox4, hk3, hcell3, by unfold Hid; rw [val_replicate]; simp, HSTART, fun k hk => by simp [List.getD, List.getElem?_replicate]; split <;> rfl⟩
  case round =>
    obtain ⟨j, vs, qs, hjN, rfl, hvl, hql, hownv, hownq, hbox5, hk5, hcell5, hval5, hlt5, hz5⟩ := hrel
    have hc5 := cell_of_one hbox5
    have hf5 := free_of_one hbox5
    have hv5lt := hownv.lt hvl.out
    have hq5lt := hownq.lt hql.out
    clear hc4
    cases j with
    | zero =>
      have hle := long_end (val xs) (val ys) (val vs) (val qs) (2 ^ s) hc0 (by rw [← HV0V.out, ← HD.out.1]; exact hval5.out)
      have hlt6 : val vs < val ys * 2 ^ s := by rw [← HD.out.1]; exact hlt5.out
      have HLE : Hid (val vs / 2 ^ s = val xs - val qs * val ys ∧ val xs - val qs * val ys < val ys) := ⟨hle.1, hle.2 hlt6⟩
      clear hle hlt6
      go_wp2_with fail
      refine (shiftDown_walk s hs31 hvl hownv (by omega)).mono ?_
      rintro e w6 ⟨rfl, zs, hzl, hzv, hownz, hk6⟩
      rw [HLE.out.1] at hzv
      have HZV : Hid (val zs = val xs - val qs * val ys) := hzv
      have HZL : Hid (zs.length = L + 1) := hzl
      clear hzv hzl
      have hbox6 := hbox5.keep2 hk6 (show B ≠ w1.heap.size by omega)
      have hownq6 : Own base w6 (.slice (some ⟨w2.heap.size, 0, none⟩) N N) qs := hownq.keep2 hk6 (by intro e; have : w2.heap.size = w1.heap.size := Option.some.inj e; omega)
      have hc6 := cell_of_one hbox6
      go_wp2_with fail
      refine (trimM_any hbox6 hownz.rd).mono ?_
      rintro e w7 ⟨rfl, rfl⟩
      have hM := hownz.meant
      have hv5 : vtake (.slice (some ⟨w1.heap.size, 0, none⟩) (L + 1) (L + 1)) (tl zs zs.length) = .slice (some ⟨w1.heap.size, 0, none⟩) (tr zs).length (L + 1) := by rw [tr_length]; rfl
      rw [hv5] at hM ⊢
      clear hv5
      have hbox7 : Box (w6.setCell ⟨B, 0, none⟩ (.slice (some ⟨w1.heap.size, 0, none⟩) (tr zs).length (L + 1))) B ty (.slice (some ⟨w1.heap.size, 0, none⟩) (tr zs).length (L + 1)) := one_setCell hbox6
      have hown7 := hM.setCell (a := ⟨B, 0, none⟩) (own_box_ne hbox6 hM hty) (.slice (some ⟨w1.heap.size, 0, none⟩) (tr zs).length (L + 1))
      have hownq7 := hownq6.setCell (a := ⟨B, 0, none⟩) (own_box_ne hbox6 hownq6 hty) (.slice (some ⟨w1.heap.size, 0, none⟩) (tr zs).length (L + 1))
      have hk7 : Kept2 w (w6.setCell ⟨B, 0, none⟩ (.slice (some ⟨w1.heap.size, 0, none⟩) (tr zs).length (L + 1))) B none := (hk5.new hk6 (by omega)).setCell (Or.inl rfl) _
      go_wp2_with fail
      refine (meant_rd hownq7.rd).mono ?_
      rintro e w8 ⟨rfl, rfl⟩
      have hMq := hownq7.meant
      have hvq : vtake (.slice (some ⟨w2.heap.size, 0, none⟩) N N) (tl qs qs.length) = .slice (some ⟨w2.heap.size, 0, none⟩) (tr qs).length N := by rw [tr_length]; rfl
      rw [hvq] at hMq ⊢
      clear hvq
      go_wp2
      go_ret
      have cz := tr_can hownz.lim
      have hvz : val (tr zs) = val xs - val qs * val ys := by rw [val_tr]; exact HZV.out
      have hzy : (tr zs).length ≤ ys.length := can_len_le2 cy cz (by rw [hvz]; have := HLE.out.2; omega)
      have hxL := hxl.out
      have hyL := hyl.out
      have hqL := tr_length_le qs
      have hqL2 := hql.out
      refine ⟨tr qs, tr zs, _, _, _, _, rfl, hMq, tr_can hownq.lim, cz, hbox7, hown7, ?_, ?_, by omega, by omega, hzy, (fun k hk => Or.inr (by have : w1.heap.size = k := Option.some.inj hk; omega)), hk7⟩
      · rw [hvz, val_tr]; omega
      · rw [hvz]; exact HLE.out.2
    | succ i =>
      have ej : ((i + 1 : Nat) : Int) - 1 = (i : Int) := by omega
      rw [ej]
      clear ej
      obtain ⟨A, U, C, rfl, hA, hU⟩ := win_split vs i (m + 2) (L + 1) hvl.out (by omega)
      have hwin : Win base w1.heap.size i (m + 2) (L + 1) (L + 1) w.heap.size 0 wr A U C bs := ⟨hA, hU, hvl.out, hownv, by omega, by omega, lb, HLBL.out, hcell5.out⟩
      have htopw := win_top A U C i (m + 2) (val bs) hA hU hownv.lim hlt5.out HBP.out.2
      have HC : Hid (val C = 0) := htopw.1
      have hql1 := quotientLimb_any (L + 1 - i) (m + 2 + 1) hwin (by omega) HD.out.2 htopw.2
      clear htopw
      go_wp2_with fail
      rw [show i + (m + 2) + 1 - i = m + 2 + 1 by omega]
      refine hql1.mono ?_
      rintro e w6 ⟨U', rfl, hqr, hvU, hwin6, hk6⟩
      clear hql1
      have hq0 := hz5.out i (by omega)
      have hnext := long_next A U U' C i (val bs) (val vs0) qs hA (by rw [hwin6.lU, hU]) HC.out HBP.out.1 hvU (by rw [hql.out]; omega) hq0 hval5.out
      have HNEXT := hide hnext
      generalize val U / val bs = Q at *
      clear hnext
      have hownq6 : Own base w6 (.slice (some ⟨w2.heap.size, 0, none⟩) N N) qs := hownq.keep2 hk6 (by intro e; have : w2.heap.size = w1.heap.size := Option.some.inj e; omega)
      have hbox6 : Box w6 B ty (.slice (some ⟨w1.heap.size, 0, none⟩) (L + 1) (L + 1)) := hbox5.keep2 hk6 (by omega)
      have hk6' : Kept2 w w6 B none := hk5.new hk6 (by omega)
      have hcq := hownq6.cellAt hql.out i (by omega)
      have hfq := hownq6.frozenAt hql.out i
      have hS := hownq6.stored hql.out i Q hqr
      have sz6 := hk6.size
      go_wp2
      go_roundw
      case rel => exact ⟨i, A ++ U' ++ C, qs.set i Q, by omega, by go_num, hwin6.lL, (by unfold Hid; rw [List.length_set]; exact hql.out), hwin6.own.setCell (by intro e; have : w1.heap.size = w2.heap.size := Option.some.inj e; omega) _, hS, box_set hbox6 (by omega) _ _, hk6'.setNew (by omega) _ _,
        (fun k hk => ((Kept2.setCell (Kept2.refl w6 w2.heap.size none) (p := ⟨w2.heap.size, i, none⟩) (Or.inl rfl) _).cell (by omega) (by omega) _).trans (hwin6.cell k hk)), HNEXT.out.1, HNEXT.out.2, (fun k hk => by rw [getD_set, if_neg (by omega)]; exact hz5.out k (by omega))⟩
      case measure => simp [intOf]
end Go.Proofs.YtibciilhfpgjjadDoor
