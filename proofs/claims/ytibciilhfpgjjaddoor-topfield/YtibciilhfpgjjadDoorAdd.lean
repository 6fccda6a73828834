/- (*adder).add: one number more on a running sum. -/
import Derived.Test.YtibciilhfpgjjadDoorPush
import Derived.Deep.DeepCutAuto
namespace Go.Proofs.YtibciilhfpgjjadDoor
set_option linter.unusedVariables false
set_option linter.unusedSimpArgs false
open Go.RowKit

theorem add_step (us ys : List Int) (i : Nat) (c V t : Int) (hi : i < us.length) (h : val us + c * pw i = V + val (ys.take i)) (ht : t = us.getD i 0 + c + ys.getD i 0) :
    val (us.set i (t % 4294967296)) + t / 4294967296 * pw (i + 1) = V + val (ys.take (i + 1)) := by
  have hd : 4294967296 * (t / 4294967296) + t % 4294967296 = t := Int.mul_ediv_add_emod t 4294967296
  have hy : val (ys.take (i + 1)) = val (ys.take i) + ys.getD i 0 * pw i := by
    by_cases hy : i < ys.length
    · exact val_take_succ ys i hy
    · have e1 : ys.take (i + 1) = ys.take i := by rw [List.take_of_length_le (by omega), List.take_of_length_le (by omega)]
      have e2 : ys.getD i 0 = 0 := by simp [List.getD, List.getElem?_eq_none (Nat.le_of_not_lt hy)]
      rw [e1, e2]; simp
  rw [val_set _ _ _ hi, hy, pw_succ]
  generalize t / 4294967296 = q at *
  generalize t % 4294967296 = r at *
  have key := congrArg (fun u => u * pw i) (hd.trans ht)
  simp only [Int.add_mul, Int.sub_mul, Int.mul_assoc, Int.mul_comm, Int.mul_left_comm] at *
  omega

theorem can_of_low {zs : List Int} (hl : lim zs) (h : zs.length = 0 ∨ pw (zs.length - 1) ≤ val zs) : can zs := by
  refine ⟨hl, ?_⟩
  rcases h with h | h
  · exact Or.inl h
  · by_cases h0 : zs.length = 0
    · exact Or.inl h0
    · refine Or.inr fun e => ?_
      obtain ⟨k, hk⟩ : ∃ k, zs.length = k + 1 := ⟨zs.length - 1, by omega⟩
      have e1 : zs = zs.take (k + 1) := by rw [← hk, List.take_length]
      have h1 : val zs = val (zs.take k) + zs.getD k 0 * pw k := by rw [← val_take_succ zs k (by omega), ← e1]
      have h2 := (val_bound (lim_take hl k)).2
      have lk : (zs.take k).length = k := by simp; omega
      rw [hk] at e h
      simp only [Nat.add_sub_cancel] at e h
      rw [e] at h1
      rw [lk] at h2
      omega

theorem val_ext (xs : List Int) (n : Nat) : val (xs ++ List.replicate n 0) = val xs := by rw [val_append, val_replicate]; simp

theorem box_grown {B ty : Nat} {w w1 : World} {u : Value} {row : Option Nat} (h : Box w B ty u) (hg : w.drew.grownBy w1 row) (hne : row ≠ some B) : Box w1 B ty u := by
  unfold Box; rw [hg.block B (lt_of_block h) (fun e => hne e.symm)]; exact h

theorem box_set {B ty g : Nat} {w : World} {u : Value} (h : Box w B ty u) (hne : g ≠ B) (o : Nat) (x : Value) : Box (w.setCell ⟨g, o, none⟩ x) B ty u := by
  unfold Box; rw [Below.heap_setCell _ _ _ _ (fun e => hne e.symm)]; exact h

theorem ext_rel {base B ty g cap m c : Nat} {a : Option Addr} {w w1 : World} {xs : List Int} (hty : ty ≠ 51) (hbs : base ≤ w.heap.size) (hBb : base ≤ B) (hown : Own base w (.slice a xs.length c) xs) (hb1 : Box w1 B ty (.slice a xs.length c))
    (hown1 : w1.ownsRow base 51 1 (.slice (some ⟨g, 0, none⟩) (xs.length + (m - xs.length)) cap) (xs.length + (m - xs.length)) (xs.map (Value.int .u32) ++ List.replicate (m - xs.length) (Value.int .u32 0)))
    (hgrow1 : w.drew.grownBy w1 (Value.slice a xs.length c).ownBlock) :
    ∃ (us : List Int) (a2 : Option Addr) (c2 : Nat), Box (w1.setCell ⟨B, 0, none⟩ (.slice (some ⟨g, 0, none⟩) (xs.length + (m - xs.length)) cap)) B ty (.slice a2 us.length c2) ∧ Own base (w1.setCell ⟨B, 0, none⟩ (.slice (some ⟨g, 0, none⟩) (xs.length + (m - xs.length)) cap)) (.slice a2 us.length c2) us ∧ Hid (us.length = max xs.length m) ∧ Hid (val us = val xs) ∧ Below base w (w1.setCell ⟨B, 0, none⟩ (.slice (some ⟨g, 0, none⟩) (xs.length + (m - xs.length)) cap)) := by
  have hl : (xs ++ List.replicate (m - xs.length) (0 : Int)).length = xs.length + (m - xs.length) := by simp
  have hO : Own base w1 (.slice (some ⟨g, 0, none⟩) (xs.length + (m - xs.length)) cap) (xs ++ List.replicate (m - xs.length) 0) := by
    refine ⟨lim_append.2 ⟨hown.lim, lim_replicate _⟩, ?_⟩
    rw [hl, List.map_append, List.map_replicate]; exact hown1
  refine ⟨xs ++ List.replicate (m - xs.length) 0, some ⟨g, 0, none⟩, cap, ?_, ?_, ?_, val_ext _ _, ?_⟩
  · rw [hl]; exact one_setCell hb1
  · rw [hl]; exact hO.setCell (own_box_ne hb1 hO hty) _
  · unfold Hid; rw [hl]; omega
  · exact ((Below.refl _ w).drew.grown hgrow1 hbs (fun k hk => (hown.2.lt k hk).1)).setCell hBb _

set_option maxRecDepth 100000 in
set_option maxHeartbeats 1600000 in
theorem add_walk {base B ty Br : Nat} {w : World} {xs ys : List Int} (m bc : Nat) (ba : Option Addr) (hy : Hid (ys.length = m)) (ly : lim ys) (hty : ty ≠ 51) (hs : St base w B ty xs) (hBr : Br ≤ base)
    (hn : xs.length ≤ 17592186044415) (hm : m ≤ 17592186044415)
    (kb : 0 < m → ∃ g o, ba = some ⟨g, o, none⟩ ∧ g < base ∧ ∀ j, j < m → w.cell? ⟨g, o + j, none⟩ = some (.int .u32 (ys.getD j 0))) :
    Calls Tryd.prog 73 #[.pointer (some ⟨B, 0, none⟩), .slice ba m bc] w fun e w' => e = .returned (.tuple #[]) ∧ ∃ zs, val zs = val xs + val ys ∧ zs.length ≤ max xs.length m + 1 ∧ (zs.length ≤ max xs.length m ∨ pw (zs.length - 1) ≤ val zs) ∧ St base w' B ty zs ∧ Below base w w' := by
  obtain ⟨a, c, hbox, hown, hBb, hbs⟩ := hs
  obtain ⟨i0, hi, hz0, hz1, hz2⟩ := info_parts info_u32
  have hne := own_box_ne hbox hown hty
  have hlt := lt_of_block hbox
  have hc := cell_of_one hbox
  have hf := free_of_one hbox
  go_enter Tryd.func73, Tryd.ntmps73
  go_upto_if 15 with fail
  go_cut [15] (fun s wc => ∃ (us : List Int) (a2 : Option Addr) (c2 : Nat), Box wc B ty (.slice a2 us.length c2) ∧ Own base wc (.slice a2 us.length c2) us ∧ Hid (us.length = max xs.length m) ∧ Hid (val us = val xs) ∧ Below base w wc)
  case first =>
    by_cases hext : xs.length < m
    · go_wp2
      go_region_law ((refine step_append_own_zeros rfl _ _ 22 3 rfl base 51 i0 (.int .u32 0) .i64 .i64 Tryd.underlying22 Tryd.underlying3 hi hz0 hz1 rfl rfl _ xs.length (xs.map (Value.int .u32)) rfl (by first | exact hown.2 | exact hown.2.drew) (m - xs.length) _ rfl (by rw [IntKind.wrap_i64]; omega) (by omega) (by unfold maxLen; omega) (by rw [hz2]; omega) (by simp; omega) ?_; intro g cap w1 hown1 hgrow1; have hb1 := box_grown hbox hgrow1 hne; have hc1 := cell_of_one hb1; have hf1 := free_of_one hb1))
      all_goals
        go_wp2
        go_meet
        case rel => exact ext_rel hty hbs hBb hown hb1 hown1 hgrow1
    · go_wp2
      go_meet
      case rel => exact ⟨xs, a, c, hbox, hown, by unfold Hid; omega, rfl, Below.refl _ _⟩
  case rest =>
    obtain ⟨us, a2, c2, hbox2, hown2, hul, huv, hbl⟩ := hcut
    clear hbox hown hne hc hf
    have hc2 := cell_of_one hbox2
    have hf2 := free_of_one hbox2
    have hLb : us.length ≤ 17592186044415 := by have := hul.out; omega
    have hLm : m ≤ us.length := by have := hul.out; omega
    generalize hL : us.length = L at *
    have HL : Hid (us.length = L) := hL
    clear hL
    go_wp2
    go_loopw [41, 4] (fun s cr wr => ∃ (i : Nat) (C : Int) (vs : List Int), i ≤ L ∧ s = .int .i64 i ∧ cr = .int .u64 C ∧ 0 ≤ C ∧ C ≤ 1 ∧ Hid (vs.length = L) ∧ Own base wr (.slice a2 L c2) vs ∧ Box wr B ty (.slice a2 L c2) ∧ Below base w wr ∧ Hid (val vs + C * pw i = val xs + val (ys.take i)))
      (fun s _ _ => L - (intOf s).toNat)
    case atStart => exact ⟨0, 0, us, Nat.zero_le _, rfl, rfl, by omega, by omega, HL, hown2, hbox2, hbl, by unfold Hid; rw [huv.out]; simp [val]⟩
    case round =>
      obtain ⟨i, C, vs, hiL, rfl, rfl, hC0, hC1, hvl, hown3, hbox3, hbl3, hval3⟩ := hrel
      have hc3 := cell_of_one hbox3
      clear hc2 hf2 hbox2 hown2 hbl
      have hsz3 := hbl3.size
      by_cases hlt2 : i < L
      · rcases hown3.shape with ⟨hnil, hnil2⟩ | ⟨g, cap, hv, hgb, hgs, _, _⟩
        · have := hvl.out; rw [hnil2] at this; simp at this; omega
        have ha2 : a2 = some ⟨g, 0, none⟩ := by
          have := congrArg (fun v : Value => match v with | .slice a _ _ => a | _ => none) hv
          exact this
        clear hv
        subst ha2
        have hcv := hown3.cellAt hvl.out i hlt2
        have hfv := hown3.frozenAt hvl.out i
        have rv := lim_getD hown3.lim i
        have hneB := own_box_ne hbox3 hown3 hty
        have hneB' : g ≠ B := fun e => hneB (by rw [e]; rfl)
        generalize hV : vs.getD i 0 = V at *
        have HV : Hid (vs.getD i 0 = V) := hV
        clear hV
        by_cases him : i < m
        · obtain ⟨gb, ob, hba, hgb2, hbc⟩ := kb (by omega)
          subst hba
          have hcy : wr.cell? ⟨gb, ob + i, none⟩ = some (.int .u32 (ys.getD i 0)) := (hbl3.cell hgb2).trans (hbc i him)
          have ry := lim_getD ly i
          generalize hY : ys.getD i 0 = Y at *
          have HY : Hid (ys.getD i 0 = Y) := hY
          clear hY hbc kb
          have hS := hown3.stored hvl.out i ((V + C + Y) % 4294967296) (by omega)
          go_wp2
          go_roundw
          case rel => exact ⟨i + 1, (V + C + Y) / 4294967296, vs.set i ((V + C + Y) % 4294967296), by omega, by go_num, rfl, by omega, by omega, (by unfold Hid; rw [List.length_set]; exact hvl.out), hS, box_set hbox3 hneB' _ _, hbl3.setCell hgb _, add_step vs ys i C (val xs) _ (by rw [hvl.out]; exact hlt2) hval3.out (by rw [HV.out, HY.out])⟩
          case measure => simp [intOf]; omega
        · have hY0 : ys.getD i 0 = 0 := by simp [List.getD, List.getElem?_eq_none (show ys.length ≤ i by rw [hy.out]; omega)]
          have HY : Hid (ys.getD i 0 = 0) := hY0
          clear hY0 kb
          by_cases hC : C = 0
          · subst hC
            go_wp2
            refine bodyPost_ret (v := .tuple #[]) (by simp [results, Tryd.results73, go_sem]) rfl ?_
            refine ⟨rfl, vs, ?_, ?_, ?_, ⟨some ⟨g, 0, none⟩, c2, ?_, ?_, hBb, by omega⟩, hbl3⟩
            · have h3 := hval3.out
              rw [List.take_of_length_le (show ys.length ≤ i by rw [hy.out]; omega)] at h3
              rw [← h3]; simp
            · rw [hvl.out]; have := hul.out; omega
            · left; rw [hvl.out]; have := hul.out; omega
            · rw [hvl.out]; exact hbox3
            · rw [hvl.out]; exact hown3
          · have hCb : (C == 0) = false := by simpa using hC
            have hS := hown3.stored hvl.out i ((V + C) % 4294967296) (by omega)
            go_wp2
            go_roundw
            case rel => exact ⟨i + 1, (V + C) / 4294967296, vs.set i ((V + C) % 4294967296), by omega, by go_num, rfl, by omega, by omega, (by unfold Hid; rw [List.length_set]; exact hvl.out), hS, box_set hbox3 hneB' _ _, hbl3.setCell hgb _, add_step vs ys i C (val xs) _ (by rw [hvl.out]; exact hlt2) hval3.out (by rw [HV.out, HY.out]; omega)⟩
            case measure => simp [intOf]; omega
      · obtain rfl : i = L := by omega
        have hvl' := hvl.out
        have hst : St base wr B ty vs := ⟨a2, c2, by rw [hvl']; exact hbox3, by rw [hvl']; exact hown3, hBb, by omega⟩
        clear hvl' kb
        go_wp2_with fail
        refine (push_any C hC0 (by omega) hty hst (by rw [hvl.out]; omega)).mono ?_
        rintro e w2 ⟨rfl, hst2, hbl2⟩
        go_wp2
        go_end0
        refine ⟨rfl, pushed vs C, ?_, ?_, ?_, hst2, hbl3.trans hbl2⟩
        · rw [val_pushed, hvl.out, hval3.out, List.take_of_length_le (show ys.length ≤ i by rw [hy.out]; omega)]
        · have h1 := hvl.out; have h2 := hul.out
          unfold pushed; split
          · omega
          · simp; omega
        · have h1 := hvl.out; have h2 := hul.out
          by_cases hC : C = 0
          · left; unfold pushed; rw [if_pos hC]; omega
          · right
            have h3 : (pushed vs C).length = i + 1 := by unfold pushed; rw [if_neg hC]; simp; omega
            have h4 := (val_bound hown3.lim).1
            have h5 : C = 1 := by omega
            rw [h3, val_pushed, h1, h5]; simp only [Nat.add_sub_cancel]; omega

/-- (*adder).add: the sum, right limbs. -/
theorem add_any {base B ty Br : Nat} {w : World} {bv : Value} {xs ys : List Int} (hty : ty ≠ 51) (hs : St base w B ty xs) (cx : can xs) (hb : Rd Br w bv ys) (cy : can ys) (hBr : Br ≤ base) (hn : xs.length ≤ 17592186044415) (hm : ys.length ≤ 17592186044415) :
    Calls Tryd.prog 73 #[.pointer (some ⟨B, 0, none⟩), bv] w fun e w' => e = .returned (.tuple #[]) ∧ ∃ zs, can zs ∧ val zs = val xs + val ys ∧ zs.length ≤ max xs.length ys.length + 1 ∧ St base w' B ty zs ∧ Below base w w' := by
  obtain ⟨ly, ba, bc, rfl, _, _, _, kb⟩ := hb
  refine (add_walk (Br := Br) ys.length bc ba rfl ly hty hs hBr hn hm ?_).mono ?_
  · intro h0
    rcases kb with kb | ⟨g, o, ha, hg, hc⟩
    · omega
    · exact ⟨g, o, ha, by omega, hc⟩
  · rintro e w' ⟨rfl, zs, hv, hl, hlow, hst, hbl⟩
    refine ⟨rfl, zs, ?_, hv, hl, hst, hbl⟩
    have hlim : lim zs := by obtain ⟨_, _, _, h, _⟩ := hst; exact h.lim
    refine can_of_low hlim ?_
    rcases hlow with hlow | hlow
    · by_cases h0 : zs.length = 0
      · exact Or.inl h0
      · refine Or.inr ?_
        have vx := (val_bound cx.1).1
        have vy := (val_bound cy.1).1
        by_cases hc : xs.length ≤ ys.length
        · have := can_low cy (by omega)
          have := pw_mono (j := zs.length - 1) (k := ys.length - 1) (by omega)
          omega
        · have := can_low cx (by omega)
          have := pw_mono (j := zs.length - 1) (k := xs.length - 1) (by omega)
          omega
    · exact Or.inr hlow

end Go.Proofs.YtibciilhfpgjjadDoor
