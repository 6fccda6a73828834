/- (*subtractor).less and nat.Minus: a difference, or that it would be below 0. -/
import Derived.Test.YtibciilhfpgjjadDoorLists
namespace Go.Proofs.YtibciilhfpgjjadDoor
set_option linter.unusedVariables false
set_option linter.unusedSimpArgs false
open Go.RowKit

theorem less_step (us ys : List Int) (i : Nat) (c V z c' : Int) (hi : i < us.length) (h : val us - c * pw i = V - val (ys.take i)) (ht : us.getD i 0 - c - ys.getD i 0 = z - c' * 4294967296) :
    val (us.set i z) - c' * pw (i + 1) = V - val (ys.take (i + 1)) := by
  have hy : val (ys.take (i + 1)) = val (ys.take i) + ys.getD i 0 * pw i := by
    by_cases hy : i < ys.length
    · exact val_take_succ ys i hy
    · have e1 : ys.take (i + 1) = ys.take i := by rw [List.take_of_length_le (by omega), List.take_of_length_le (by omega)]
      have e2 : ys.getD i 0 = 0 := by simp [List.getD, List.getElem?_eq_none (Nat.le_of_not_lt hy)]
      rw [e1, e2]; simp
  rw [val_set _ _ _ hi, hy, pw_succ]
  have key := congrArg (fun u => u * pw i) ht
  simp only [Int.add_mul, Int.sub_mul, Int.mul_assoc, Int.mul_comm, Int.mul_left_comm] at *
  omega

/-- What the difference of limbs is in a word of 64 bits, round or not. -/
theorem less_word (V C Y : Int) (hV : 0 ≤ V ∧ V < 4294967296) (hC : 0 ≤ C ∧ C ≤ 1) (hY : 0 ≤ Y ∧ Y < 4294967296) :
    ∃ T z c', IntKind.u64.wrap (IntKind.u64.wrap (V - C) - Y) = T ∧ 0 ≤ T ∧ T < 18446744073709551616 ∧ T % 4294967296 = z ∧ T / 9223372036854775808 = c' ∧ 0 ≤ c' ∧ c' ≤ 1 ∧ (0 ≤ z ∧ z < 4294967296) ∧ V - C - Y = z - c' * 4294967296 := by
  refine ⟨_, _, _, rfl, ?_, ?_, rfl, rfl, ?_, ?_, ?_, ?_⟩
  all_goals (simp only [IntKind.wrap_u64]; omega)

set_option maxRecDepth 100000 in
set_option maxHeartbeats 1600000 in
theorem less_walk {base B ty : Nat} {w : World} {xs ys : List Int} (a : Option Addr) (c L m bc : Nat) (ba : Option Addr) (hxl : Hid (xs.length = L)) (hy : Hid (ys.length = m)) (ly : lim ys) (hty : ty ≠ 51) (hbox : Box w B ty (.slice a L c)) (hown : Own base w (.slice a L c) xs) (hBb : base ≤ B) (hbs : base ≤ w.heap.size)
    (hn : L ≤ 17592186044415) (hm : m ≤ 17592186044415) (hge : Hid (val ys ≤ val xs)) (hml : m ≤ L)
    (kb : 0 < m → ∃ g o, ba = some ⟨g, o, none⟩ ∧ g < base ∧ ∀ j, j < m → w.cell? ⟨g, o + j, none⟩ = some (.int .u32 (ys.getD j 0))) :
    Calls Tryd.prog 59 #[.pointer (some ⟨B, 0, none⟩), .slice ba m bc] w fun e w' => e = .returned (.tuple #[]) ∧ ∃ zs, can zs ∧ val zs = val xs - val ys ∧ zs.length ≤ xs.length ∧ St base w' B ty zs ∧ Below base w w' := by
  have hc := cell_of_one hbox
  have fin : ∀ (vs : List Int) (wr : World), Hid (vs.length = L) → Own base wr (.slice a L c) vs → Box wr B ty (.slice a L c) → Below base w wr → val vs = val xs - val ys →
      (∃ zs, can zs ∧ val zs = val xs - val ys ∧ zs.length ≤ xs.length ∧ St base (wr.setCell ⟨B, 0, none⟩ (vtake (.slice a L c) (tl vs vs.length))) B ty zs ∧ Below base w (wr.setCell ⟨B, 0, none⟩ (vtake (.slice a L c) (tl vs vs.length)))) := by
    intro vs wr hvl ho hb hbl hv
    have hM := ho.meant
    have hv5 : vtake (.slice a L c) (tl vs vs.length) = .slice a (tr vs).length c := by rw [tr_length]; rfl
    rw [hv5] at hM ⊢
    have hs := hbl.size
    refine ⟨tr vs, tr_can ho.lim, by rw [val_tr]; exact hv, ?_, ⟨a, c, one_setCell hb, hM.setCell (own_box_ne hb hM hty) _, hBb, by simp; omega⟩, hbl.setCell hBb _⟩
    have h1 := tr_length_le vs
    have h2 := hvl.out
    have h3 := hxl.out
    omega
  have FIN : Hid (∀ (vs : List Int) (wr : World), Hid (vs.length = L) → Own base wr (.slice a L c) vs → Box wr B ty (.slice a L c) → Below base w wr → val vs = val xs - val ys →
      (∃ zs, can zs ∧ val zs = val xs - val ys ∧ zs.length ≤ xs.length ∧ St base (wr.setCell ⟨B, 0, none⟩ (vtake (.slice a L c) (tl vs vs.length))) B ty zs ∧ Below base w (wr.setCell ⟨B, 0, none⟩ (vtake (.slice a L c) (tl vs vs.length))))) := fin
  clear fin
  go_enter Tryd.func59, Tryd.ntmps59
  go_wp2
  go_loopw [13, 4] (fun s cr wr => ∃ (i : Nat) (C : Int) (vs : List Int), i ≤ L ∧ s = .int .i64 i ∧ cr = .int .u64 C ∧ 0 ≤ C ∧ C ≤ 1 ∧ Hid (vs.length = L) ∧ Own base wr (.slice a L c) vs ∧ Box wr B ty (.slice a L c) ∧ Below base w wr ∧ Hid (val vs - C * pw i = val xs - val (ys.take i)))
    (fun s _ _ => L - (intOf s).toNat)
  case atStart => exact ⟨0, 0, xs, Nat.zero_le _, rfl, rfl, by omega, by omega, hxl, hown, hbox, Below.refl _ _, by unfold Hid; simp [val]⟩
  case round =>
    obtain ⟨i, C, vs, hiL, rfl, rfl, hC0, hC1, hvl, hown3, hbox3, hbl3, hval3⟩ := hrel
    have hc3 := cell_of_one hbox3
    clear hc hbox hown
    by_cases hlt2 : i < L
    · rcases hown3.shape with ⟨hnil, hnil2⟩ | ⟨g, cap, hv, hgb, hgs, _, _⟩
      · have := hvl.out; rw [hnil2] at this; simp at this; omega
      have ha2 : a = some ⟨g, 0, none⟩ := by
        have := congrArg (fun v : Value => match v with | .slice a _ _ => a | _ => none) hv
        exact this
      clear hv
      subst ha2
      have hcv := hown3.cellAt hvl.out i hlt2
      have hfv := hown3.frozenAt hvl.out i
      have rv := lim_getD hown3.lim i
      have hneB := own_box_ne hbox3 hown3 hty
      have hneB' : g ≠ B := fun e => hneB (by rw [e]; rfl)
      generalize hV : vs.getD i 0 = V at *
      have HV : Hid (vs.getD i 0 = V) := hV
      clear hV
      by_cases him : i < m
      · obtain ⟨gb, ob, hba, hgb2, hbc⟩ := kb (by omega)
        subst hba
        have hcy : wr.cell? ⟨gb, ob + i, none⟩ = some (.int .u32 (ys.getD i 0)) := (hbl3.cell hgb2).trans (hbc i him)
        have ry := lim_getD ly i
        generalize hY : ys.getD i 0 = Y at *
        have HY : Hid (ys.getD i 0 = Y) := hY
        clear hY hbc kb
        obtain ⟨T, z, c', eT, t0, t1, ez, ec, c0, c1, zr, heq⟩ := less_word V C Y rv ⟨hC0, hC1⟩ ry
        have HEQ : Hid (V - C - Y = z - c' * 4294967296) := heq
        have hS := hown3.stored hvl.out i z zr
        clear heq
        go_wp2
        go_roundw
        case rel => exact ⟨i + 1, c', vs.set i z, by omega, by go_num, rfl, c0, c1, (by unfold Hid; rw [List.length_set]; exact hvl.out), hS, box_set hbox3 hneB' _ _, hbl3.setCell hgb _, less_step vs ys i C (val xs) z c' (by rw [hvl.out]; exact hlt2) hval3.out (by rw [HV.out, HY.out]; exact HEQ.out)⟩
        case measure => simp [intOf]; omega
      · have hY0 : ys.getD i 0 = 0 := by simp [List.getD, List.getElem?_eq_none (show ys.length ≤ i by rw [hy.out]; omega)]
        have HY : Hid (ys.getD i 0 = 0) := hY0
        clear hY0 kb
        by_cases hC : C = 0
        · subst hC
          have hfin : val vs = val xs - val ys := by
            have h3 := hval3.out
            rw [List.take_of_length_le (show ys.length ≤ i by rw [hy.out]; omega)] at h3
            rw [← h3]; simp
          have F := FIN.out vs wr hvl hown3 hbox3 hbl3 hfin
          clear FIN hfin hcv hfv
          go_wp2_with fail
          refine (trimM_any hbox3 hown3.rd).mono ?_
          rintro e w2 ⟨rfl, rfl⟩
          go_wp2
          go_end0
          exact ⟨rfl, F⟩
        · have hCb : (C == 0) = false := by simpa using hC
          obtain ⟨T, z, c', eT, t0, t1, ez, ec, c0, c1, zr, heq⟩ := less_word V C 0 rv ⟨hC0, hC1⟩ ⟨by omega, by omega⟩
          have HEQ : Hid (V - C - 0 = z - c' * 4294967296) := heq
          have eT' : IntKind.u64.wrap (V - C) = T := by rw [← eT, Int.sub_zero]; simp only [IntKind.wrap_u64]; omega
          have hS := hown3.stored hvl.out i z zr
          clear heq eT
          go_wp2
          go_roundw
          case rel => exact ⟨i + 1, c', vs.set i z, by omega, by go_num, rfl, c0, c1, (by unfold Hid; rw [List.length_set]; exact hvl.out), hS, box_set hbox3 hneB' _ _, hbl3.setCell hgb _, less_step vs ys i C (val xs) z c' (by rw [hvl.out]; exact hlt2) hval3.out (by rw [HV.out, HY.out]; exact HEQ.out)⟩
          case measure => simp [intOf]; omega
    · obtain rfl : i = L := by omega
      have hfin : val vs = val xs - val ys := by
        have h3 := hval3.out
        rw [List.take_of_length_le (show ys.length ≤ i by rw [hy.out]; omega)] at h3
        have h4 := (val_bound hown3.lim).2
        rw [hvl.out] at h4
        have h5 := hge.out
        have hc01 : C = 0 ∨ C = 1 := by omega
        rcases hc01 with rfl | rfl
        · simpa using h3
        · simp only [Int.one_mul] at h3; omega
      have F := FIN.out vs wr hvl hown3 hbox3 hbl3 hfin
      clear FIN hfin kb
      go_wp2_with fail
      refine (trimM_any hbox3 hown3.rd).mono ?_
      rintro e w2 ⟨rfl, rfl⟩
      go_wp2
      go_end0
      exact ⟨rfl, F⟩

theorem can_len_le {xs ys : List Int} (hx : can xs) (hy : can ys) (h : val ys ≤ val xs) : ys.length ≤ xs.length := by
  by_cases hl : ys.length ≤ xs.length
  · exact hl
  · have := can_len_lt hx hy (by omega); omega

/-- (*subtractor).less: the difference, right limbs. -/
theorem less_any {base B ty Br : Nat} {w : World} {bv : Value} {xs ys : List Int} (hty : ty ≠ 51) (hs : St base w B ty xs) (cx : can xs) (hb : Rd Br w bv ys) (cy : can ys) (hBr : Br ≤ base) (hn : xs.length ≤ 17592186044415) (hge : val ys ≤ val xs) :
    Calls Tryd.prog 59 #[.pointer (some ⟨B, 0, none⟩), bv] w fun e w' => e = .returned (.tuple #[]) ∧ ∃ zs, can zs ∧ val zs = val xs - val ys ∧ zs.length ≤ xs.length ∧ St base w' B ty zs ∧ Below base w w' := by
  obtain ⟨a, c, hbox, hown, hBb, hbs⟩ := hs
  obtain ⟨ly, ba, bc, rfl, _, _, _, kb⟩ := hb
  have hml := can_len_le cx cy hge
  refine less_walk a c xs.length ys.length bc ba rfl rfl ly hty hbox hown hBb hbs hn (by omega) hge hml ?_
  intro h0
  rcases kb with kb | ⟨g, o, ha, hg, hc⟩
  · omega
  · exact ⟨g, o, ha, by omega, hc⟩

/-- What nat.Minus hands back. -/
def Minuses (w : World) (n : Int) (e : Ending) (w' : World) : Prop :=
  Below w.heap.size w w' ∧ if n < 0 then e = .returned (.tuple #[.slice none 0 0, .bool false]) else ∃ zs a c, can zs ∧ val zs = n ∧ e = .returned (.tuple #[.slice a zs.length c, .bool true]) ∧ Own w.heap.size w' (.slice a zs.length c) zs

set_option maxHeartbeats 800000 in
theorem minus_any {B1 B2 : Nat} {w : World} {v1 v2 : Value} {xs ys : List Int} (h1 : Rd B1 w v1 xs) (hB1 : B1 ≤ w.heap.size) (h2 : Rd B2 w v2 ys) (hB2 : B2 ≤ w.heap.size) (hn : xs.length ≤ 17592186044415) :
    Calls Tryd.prog 39 #[v1, v2] w fun e w' => Minuses w (val xs - val ys) e w' ∧ (val ys ≤ val xs → ∃ zs a c, zs.length ≤ xs.length ∧ can zs ∧ val zs = val xs - val ys ∧ e = .returned (.tuple #[.slice a zs.length c, .bool true]) ∧ Own w.heap.size w' (.slice a zs.length c) zs) := by
  by_cases hlt : val xs < val ys
  · have hcm := cmpI_lt hlt
    go_enter Tryd.func39, Tryd.ntmps39
    go_wp2_with fail
    refine (compare_bl h1 h2).mono ?_
    rintro e wa ⟨rfl, ba⟩
    rw [hcm]
    go_wp2
    go_ret2
    refine ⟨⟨ba, ?_⟩, fun h => by omega⟩
    rw [if_pos (by omega)]
    rfl
  · obtain ⟨cm, hcm, hcm0⟩ : ∃ cm, cmpI (val xs) (val ys) = cm ∧ 0 ≤ cm := by
      by_cases he : val xs = val ys
      · exact ⟨0, cmpI_eq he, by omega⟩
      · exact ⟨1, cmpI_gt (by omega), by omega⟩
    have ht := h2.meant
    go_enter Tryd.func39, Tryd.ntmps39
    go_wp2_with fail
    refine (compare_bl h1 h2).mono ?_
    rintro e wa ⟨rfl, ba⟩
    rw [hcm]
    have sa := ba.size
    have h1a := h1.below (ba.mono hB1)
    have h2a := h2.below (ba.mono hB2)
    have hta := ht.below (ba.mono hB2)
    have HLT : Hid (val ys ≤ val xs) := by unfold Hid; omega
    clear hlt hcm
    go_wp2_with fail
    refine (begin_any h1a (by omega) (by omega)).mono ?_
    intro e w1 hm1
    obtain ⟨a, c, rfl, ho, hb⟩ := hm1
    have hz := hb.size
    have hl2 := tr_length_le xs
    have cx := tr_can h1.lim
    have hvx := val_tr xs
    generalize tr xs = xs' at *
    have HVX : Hid (val xs' = val xs) := hvx
    clear hvx
    have hst : St wa.heap.size (w1.alloc (.cells #[.slice a xs'.length c] 83)) w1.heap.size 83 xs' := ⟨a, c, heap_alloc_new _ _, ho.alloc _, hz, by simp; omega⟩
    have bq : Below wa.heap.size wa (w1.alloc (.cells #[.slice a xs'.length c] 83)) := hb.alloc hz _
    have h2b := h2a.below (bq.mono (by omega))
    go_wp2_with fail
    refine (meant_rd h2b).mono ?_
    rintro e w' ⟨rfl, rfl⟩
    go_wp2_with fail
    refine (less_any (by decide) hst cx h2b.meant (tr_can h2.lim) (by omega) (by omega) (by rw [val_tr, HVX.out]; have := HLT.out; omega)).mono ?_
    rintro e w2 ⟨rfl, zs, cz, vz, lz, ⟨a3, c3, hbox3, hown3, _, hbs3⟩, hbl2⟩
    have hc3 := cell_of_one hbox3
    have hlt3 := lt_of_block hbox3
    rw [val_tr, HVX.out] at vz
    have HVZ : Hid (val zs = val xs - val ys) := vz
    clear vz
    go_wp2
    go_ret2
    have hbw : Below w.heap.size w w2 := ba.trans ((bq.trans hbl2).mono sa)
    have ho2 := hown3.mono (base' := w.heap.size) sa
    refine ⟨⟨hbw, ?_⟩, fun _ => ⟨zs, a3, c3, by omega, cz, HVZ.out, rfl, ho2⟩⟩
    rw [if_neg (by have := HLT.out; omega)]
    exact ⟨zs, a3, c3, cz, HVZ.out, rfl, ho2⟩
end Go.Proofs.YtibciilhfpgjjadDoor
