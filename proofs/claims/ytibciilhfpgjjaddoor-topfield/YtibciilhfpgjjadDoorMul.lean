/- (*multiplier).times: the school way to multiply, into new memory. -/
import Derived.Test.YtibciilhfpgjjadDoorTimes
import Derived.Test.YtibciilhfpgjjadDoorMulMath
namespace Go.Proofs.YtibciilhfpgjjadDoor
set_option linter.unusedVariables false
set_option linter.unusedSimpArgs false
open Go.RowKit

theorem Own.stored {base g n cap : Nat} {w : World} {zs : List Int} (h : Own base w (.slice (some ⟨g, 0, none⟩) n cap) zs) (hn : zs.length = n) (j : Nat) (u : Int) (hu : 0 ≤ u ∧ u < 4294967296) :
    Own base (w.setCell ⟨g, j, none⟩ (.int .u32 u)) (.slice (some ⟨g, 0, none⟩) n cap) (zs.set j u) := by
  subst hn
  refine ⟨lim_set h.1 j u hu, ?_⟩
  rw [List.length_set, List.map_set]
  exact (h.2.stored j (.int .u32 u)).1

theorem Own.cellAt {base g n cap : Nat} {w : World} {zs : List Int} (h : Own base w (.slice (some ⟨g, 0, none⟩) n cap) zs) (hn : zs.length = n) (j : Nat) (hj : j < n) : w.cell? ⟨g, j, none⟩ = some (.int .u32 (zs.getD j 0)) := by
  subst hn
  have := h.2.cellAt j (by omega)
  rw [getD_map_u32 zs j hj] at this
  exact this

theorem Own.frozenAt {base g n cap : Nat} {w : World} {zs : List Int} (h : Own base w (.slice (some ⟨g, 0, none⟩) n cap) zs) (hn : zs.length = n) (j : Nat) : w.frozen? ⟨g, j, none⟩ = false := by
  subst hn
  exact h.2.frozenAt j

theorem Own.lt {base g n cap : Nat} {w : World} {zs : List Int} (h : Own base w (.slice (some ⟨g, 0, none⟩) n cap) zs) (hn : zs.length = n) : g < w.heap.size := by
  subst hn
  exact (h.2.lt g rfl).2

theorem own_made {base g n : Nat} {w : World} (h : w.ownsRow base 51 1 (.slice (some ⟨g, 0, none⟩) n n) n (madeCells #[Value.int .u32 0] n).toList) : Own base w (.slice (some ⟨g, 0, none⟩) n n) (List.replicate n 0) := by
  refine ⟨lim_replicate n, ?_⟩
  have e : (madeCells #[Value.int .u32 0] n).toList = (List.replicate n (0 : Int)).map (Value.int .u32) := by
    rw [List.map_replicate]
    exact toList_madeCells_one _ _
  rw [← e, List.length_replicate]; exact h

theorem grown_below {w w' : World} {row : Option Nat} (h : Below w.heap.size w w') : w.grownBy w' row := ⟨h.os, h.tape, h.output, h.size, fun k hk _ => h.block k hk⟩
theorem grown_setCell {w w' : World} {B : Nat} (h : w.grownBy w' (some B)) (o : Nat) (u : Value) : w.grownBy (w'.setCell ⟨B, o, none⟩ u) (some B) :=
  ⟨h.os, h.tape, h.output, by simp [World.setCell]; exact h.size, fun k hk hne => by rw [Below.heap_setCell _ _ _ _ (fun e => hne (by rw [e]))]; exact h.block k hk hne⟩

set_option maxHeartbeats 1600000 in
theorem times_walk (B ty n pc m bc : Nat) (pa ba : Option Addr) (xs ys : List Int) (w : World) (hx : Hid (xs.length = n)) (hy : Hid (ys.length = m)) (lx : lim xs) (ly : lim ys) (hbox : Box w B ty (.slice pa n pc)) (hB : B < w.heap.size)
    (hnm : n + m ≤ 35184372088832)
    (kp : 0 < n → ∃ g o, pa = some ⟨g, o, none⟩ ∧ g < w.heap.size ∧ ∀ j, j < n → w.cell? ⟨g, o + j, none⟩ = some (.int .u32 (xs.getD j 0)))
    (kb : 0 < m → ∃ g o, ba = some ⟨g, o, none⟩ ∧ g < w.heap.size ∧ ∀ j, j < m → w.cell? ⟨g, o + j, none⟩ = some (.int .u32 (ys.getD j 0))) :
    Calls Tryd.prog 68 #[.pointer (some ⟨B, 0, none⟩), .slice ba m bc] w fun e w' => e = .returned (.tuple #[]) ∧
      ∃ zs, lim zs ∧ val zs = val xs * val ys ∧ zs.length = n + m ∧ ∃ a c, Box w' B ty (.slice a (tr zs).length c) ∧ Own w.heap.size w' (.slice a (tr zs).length c) (tr zs) ∧ w.grownBy w' (some B) := by
  obtain ⟨i0, hi, hz0, hz1, hz2⟩ := info_parts info_u32
  have hc0 := cell_of_one hbox
  have hf0 := free_of_one hbox
  go_enter Tryd.func68, Tryd.ntmps68
  go_wp2_with (at_make; refine wpList_make_full _ rfl _ _ 22 rfl w.heap.size 51 i0 (.int .u32 0) 1 Tryd.underlying22 hi hz0 hz1 _ _ _ _ (n + m) rfl rfl (by omega) (by omega) ?b2 ?b3 (Nat.le_refl _) ?_)
  case b2 => rw [hz2]; omega
  case b3 => unfold maxLen; omega
  intro w0 hown0 hgrow0
  have hO := own_made hown0
  have hb0 : Below w.heap.size w w0 := (Below.refl _ _).grown hgrow0 (Nat.le_refl _) (fun k h => by cases h)
  have hc1 : w0.cell? ⟨B, 0, none⟩ = some (.slice pa n pc) := (hb0.cell hB).trans hc0
  clear hown0 hgrow0 hc0 hf0
  go_wp2
  go_loopw [27] (fun s wr => ∃ (i : Nat) (zs : List Int), i ≤ n ∧ s = .int .i64 i ∧ Hid (zs.length = n + m) ∧ Own w.heap.size wr (.slice (some ⟨w.heap.size, 0, none⟩) (n + m) (n + m)) zs ∧ Below w.heap.size w wr ∧ Hid (val zs = val (xs.take i) * val ys) ∧ Hid (∀ k, i + m ≤ k → zs.getD k 0 = 0))
    (fun s _ => n - (intOf s).toNat)
  case atStart => exact ⟨0, List.replicate (n + m) 0, Nat.zero_le _, rfl, List.length_replicate, hO, hb0, by unfold Hid; rw [val_replicate]; simp [val], fun k _ => by simp [List.getD, List.getElem?_replicate]; split <;> rfl⟩
  case round =>
    obtain ⟨i, zs, hin, rfl, hzl, hown, hbl, hval, hzero⟩ := hrel
    by_cases hlt : i < n
    · obtain ⟨g, o, hpa, hg, hpc⟩ := kp (by omega)
      subst hpa
      have hcx : wr.cell? ⟨g, o + i, none⟩ = some (.int .u32 (xs.getD i 0)) := (hbl.cell hg).trans (hpc i hlt)
      have rx := lim_getD lx i
      generalize hX : xs.getD i 0 = X at *
      have HX : Hid (xs.getD i 0 = X) := hX
      clear hX hpc hc1 hO hb0
      go_wp2
      obtain ⟨wo, rfl⟩ : ∃ wo : World, wo = wr := ⟨_, rfl⟩
      go_loopw [34, 7] (fun s c wi => ∃ (j : Nat) (C : Int) (us : List Int), j ≤ m ∧ s = .int .i64 j ∧ c = .int .u64 C ∧ 0 ≤ C ∧ C < 4294967296 ∧ Hid (us.length = n + m) ∧ Own w.heap.size wi (.slice (some ⟨w.heap.size, 0, none⟩) (n + m) (n + m)) us ∧ Below w.heap.size w wi ∧ Hid (val us + C * pw (i + j) = val zs + X * val (ys.take j) * pw i) ∧ Hid (∀ k, i + m ≤ k → us.getD k 0 = 0))
        (fun s _ _ => m - (intOf s).toNat)
      case atStart => exact ⟨0, 0, zs, Nat.zero_le _, rfl, rfl, by omega, by omega, hzl, hown, hbl, by unfold Hid; simp [val], hzero⟩
      case round =>
        obtain ⟨j, C, us, hjm, rfl, rfl, hC0, hC1, hul, hownu, hblu, hvalu, hzerou⟩ := hrel
        have hNu := hownu.lt hul.out
        by_cases hjl : j < m
        · obtain ⟨gb, ob, hba, hgb, hbc⟩ := kb (by omega)
          subst hba
          have hcy : wr.cell? ⟨gb, ob + j, none⟩ = some (.int .u32 (ys.getD j 0)) := (hblu.cell hgb).trans (hbc j hjl)
          have ry := lim_getD ly j
          have hcz := hownu.cellAt hul.out (i + j) (by omega)
          have hfz := hownu.frozenAt hul.out (i + j)
          have rz := lim_getD hownu.lim (i + j)
          generalize hY : ys.getD j 0 = Y at *
          generalize hZ : us.getD (i + j) 0 = Z at *
          have HY : Hid (ys.getD j 0 = Y) := hY
          have HZ : Hid (us.getD (i + j) 0 = Z) := hZ
          have hxy := mul_bound rx ry
          clear hY hZ hbc kp kb
          have hT0 : 0 ≤ X * Y + Z + C := by omega
          have hT1 : X * Y + Z + C < 18446744073709551616 := by omega
          have hS := hownu.stored hul.out (i + j) ((X * Y + Z + C) % 4294967296) (by omega)
          go_wp2
          go_roundw
          case rel => exact ⟨j + 1, (X * Y + Z + C) / 4294967296, us.set (i + j) ((X * Y + Z + C) % 4294967296), by omega, by go_num, rfl, by omega, by omega, (by unfold Hid; rw [List.length_set]; exact hul.out), hS, hblu.setCell (Nat.le_refl _) _,
            mul_step us ys i j X C (val zs) _ (by rw [hy.out]; omega) (by rw [hul.out]; omega) hvalu.out (by rw [HY.out, HZ.out]), zeros_set us (i + m) (i + j) _ hzerou.out (by omega)⟩
          case measure => simp [intOf]; omega
        · obtain rfl : j = m := by omega
          have hfz := hownu.frozenAt hul.out (i + j)
          have hcz := hownu.cellAt hul.out (i + j) (by omega)
          have hS := hownu.stored hul.out (i + j) C (by omega)
          clear kp kb
          go_wp2
          go_roundw
          case rel => exact ⟨i + 1, us.set (i + j) C, by omega, by go_num, (by unfold Hid; rw [List.length_set]; exact hul.out), hS, hblu.setCell (Nat.le_refl _) _,
            (by have := mul_round us xs ys i C (val zs) (by rw [hx.out]; omega) (by rw [hul.out, hy.out]; omega) (by rw [hy.out]; exact hzerou.out _ (by omega)) (by rw [hy.out, HX.out]; exact hvalu.out) hval.out; rw [hy.out] at this; exact this), zeros_set us (i + 1 + j) (i + j) _ (fun k hk => hzerou.out k (by omega)) (by omega)⟩
          case measure => simp [intOf]; omega
    · obtain rfl : i = n := by omega
      clear kp kb
      have hbx : Box wr B ty (.slice pa i pc) := by unfold Box; rw [hbl.block B hB]; exact hbox
      have hc2 := cell_of_one hbx
      have hf2 := free_of_one hbx
      have hz : zs.length = i + m := hzl.out
      have hb2 : Box (wr.setCell ⟨B, 0, none⟩ (.slice (some ⟨w.heap.size, 0, none⟩) (i + m) (i + m))) B ty (.slice (some ⟨w.heap.size, 0, none⟩) (i + m) (i + m)) := one_setCell hbx
      have hO2 : Own w.heap.size (wr.setCell ⟨B, 0, none⟩ (.slice (some ⟨w.heap.size, 0, none⟩) (i + m) (i + m))) (.slice (some ⟨w.heap.size, 0, none⟩) (i + m) (i + m)) zs := hown.setCell (ownBlock_ne hown hB) _
      clear hz
      go_wp2_with fail
      refine (trimM_any hb2 hO2.rd).mono ?_
      rintro e w' ⟨rfl, rfl⟩
      go_wp2
      go_end0
      refine ⟨rfl, zs, hown.lim, ?_, hzl.out, ?_⟩
      · rw [hval.out, ← hx.out, List.take_length]
      · have hM := hO2.meant
        obtain ⟨a, c, hv⟩ := hM.form
        rw [hv] at hM ⊢
        exact ⟨a, c, one_setCell hb2, hM.setCell (ownBlock_ne hM hB) _, grown_setCell (grown_setCell (grown_below hbl) _ _) _ _⟩

/-- What a method of a running number leaves: its one variable holds limbs of the call's own; nothing else that was there has turned. -/
def Leaves (w : World) (B ty : Nat) (e : Ending) (w' : World) (zs : List Int) : Prop := e = .returned (.tuple #[]) ∧ ∃ a c, Box w' B ty (.slice a zs.length c) ∧ Own w.heap.size w' (.slice a zs.length c) zs ∧ w.grownBy w' (some B)

/-- (*multiplier).times: the product, right limbs. -/
theorem times_any {B ty base Br : Nat} {w : World} {pv bv : Value} {xs ys : List Int} (hbox : Box w B ty pv) (hp : Own base w pv xs) (hb : Rd Br w bv ys) (hBr : Br ≤ w.heap.size) (hn : xs.length + ys.length ≤ 35184372088832) :
    Calls Tryd.prog 68 #[.pointer (some ⟨B, 0, none⟩), bv] w fun e w' => ∃ zs, can zs ∧ val zs = val xs * val ys ∧ zs.length ≤ xs.length + ys.length ∧ Leaves w B ty e w' zs := by
  have hB := lt_of_block hbox
  have lx := hp.lim
  obtain ⟨_, pa, pc, rfl, _, _, _, kp⟩ := hp.rd
  obtain ⟨ly, ba, bc, rfl, _, _, _, kb⟩ := hb
  refine (times_walk B ty xs.length pc ys.length bc pa ba xs ys w rfl rfl lx ly hbox hB hn ?_ ?_).mono ?_
  · intro h0
    rcases kp with kp | ⟨g, o, ha, hg, hc⟩
    · omega
    · exact ⟨g, o, ha, hg, hc⟩
  · intro h0
    rcases kb with kb | ⟨g, o, ha, hg, hc⟩
    · omega
    · exact ⟨g, o, ha, by omega, hc⟩
  · rintro e w' ⟨rfl, zs, hl, hv, hz, a, c, h1, h2, h3⟩
    exact ⟨tr zs, tr_can hl, by rw [val_tr, hv], by have := tr_length_le zs; omega, rfl, a, c, h1, h2, h3⟩
end Go.Proofs.YtibciilhfpgjjadDoor
