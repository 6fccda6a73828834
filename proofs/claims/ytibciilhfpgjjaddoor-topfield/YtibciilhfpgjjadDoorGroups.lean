/- (*printer).groups: the groups of nine decimal digits, the lowest first. -/
import Derived.Test.YtibciilhfpgjjadDoorFormat
import Derived.Deep.LoopGhost
namespace Go.Proofs.YtibciilhfpgjjadDoor
set_option linter.unusedVariables false
set_option linter.unusedSimpArgs false
open Go.RowKit

theorem Kept2.trans {a b c : World} {B : Nat} {r : Option Nat} (h : Kept2 a b B r) (k : Kept2 b c B r) : Kept2 a c B r :=
  ⟨k.os.trans h.os, k.tape.trans h.tape, k.output.trans h.output, Nat.le_trans h.size k.size, fun i hi hB hr => (k.block i (Nat.lt_of_lt_of_le hi h.size) hB hr).trans (h.block i hi hB hr)⟩
theorem Kept2.alloc {a w : World} {B : Nat} {r : Option Nat} (h : Kept2 a w B r) (o : Obj) : Kept2 a (w.alloc o) B r :=
  ⟨h.os, h.tape, h.output, by simp; have := h.size; omega, fun k hk hB hr => by rw [Below.heap_alloc _ _ _ (Nat.lt_of_lt_of_le hk h.size)]; exact h.block k hk hB hr⟩
theorem Kept2.grown {a w w' : World} {B : Nat} {r row : Option Nat} (h : Kept2 a w B r) (hg : w.grownBy w' row) (hr : ∀ k, row = some k → a.heap.size ≤ k) : Kept2 a w' B r :=
  ⟨hg.os.trans h.os, hg.tape.trans h.tape, hg.output.trans h.output, Nat.le_trans h.size hg.size, fun k hk hB hr2 => by
    rw [hg.block k (Nat.lt_of_lt_of_le hk h.size) (fun e => by have := hr k e.symm; omega)]; exact h.block k hk hB hr2⟩

theorem Own.kept2 {base B : Nat} {w w' : World} {v : Value} {xs : List Int} {r : Option Nat} (h : Own base w v xs) (hk : Kept2 w w' B r) (hB : v.ownBlock ≠ some B) (hr : ∀ k, v.ownBlock = some k → some k ≠ r) : Own base w' v xs := by
  obtain ⟨hl, h1, h | ⟨g, cap, cur, rfl, hg, hh, rest⟩⟩ := h
  · exact ⟨hl, h1, Or.inl h⟩
  · exact ⟨hl, h1, Or.inr ⟨g, cap, cur, rfl, hg, by rw [hk.block g (lt_of_block hh) (fun e => hB (by rw [e]; rfl)) (hr g rfl)]; exact hh, rest⟩⟩

/-- The number that groups of nine digits say, the lowest first. -/
def val9 : List Int → Int
  | [] => 0
  | x :: xs => x + 1000000000 * val9 xs
def pw9 (k : Nat) : Int := 1000000000 ^ k
theorem pw9_succ (k : Nat) : pw9 (k + 1) = 1000000000 * pw9 k := by unfold pw9; rw [Int.pow_succ, Int.mul_comm]
theorem val9_append (xs ys : List Int) : val9 (xs ++ ys) = val9 xs + pw9 xs.length * val9 ys := by
  induction xs with
  | nil => simp [val9, pw9]
  | cons x xs ih =>
    simp only [List.cons_append, val9, ih, List.length_cons, pw9_succ, Int.mul_add, Int.mul_assoc]
    omega
/-- Each one a group. -/
def lim9 (xs : List Int) : Prop := ∀ x ∈ xs, 0 ≤ x ∧ x < 1000000000

theorem group_step (gs : List Int) (V V0 : Int) (h : val9 gs + pw9 gs.length * V = V0) : val9 (gs ++ [V % 1000000000]) + pw9 (gs ++ [V % 1000000000]).length * (V / 1000000000) = V0 := by
  have hd : 1000000000 * (V / 1000000000) + V % 1000000000 = V := Int.mul_ediv_add_emod V 1000000000
  rw [val9_append, List.length_append]
  show _ + pw9 (gs.length + 1) * _ = _
  rw [pw9_succ]
  simp only [val9]
  generalize V / 1000000000 = q at *
  generalize V % 1000000000 = r at *
  subst hd
  simp only [Int.mul_zero, Int.add_zero]
  simp only [Int.mul_add, Int.add_mul, Int.mul_assoc, Int.mul_comm, Int.mul_left_comm] at *
  omega

theorem pw9_pos (k : Nat) : 0 < pw9 k := by
  induction k with
  | zero => decide
  | succ k ih => rw [pw9_succ]; omega
theorem pw9_mono {j k : Nat} (h : j ≤ k) : pw9 j ≤ pw9 k := by
  induction h with
  | refl => exact Int.le_refl _
  | step _ ih => rw [pw9_succ]; have := pw9_pos j; omega
theorem pw9_ge (L : Nat) : pw L ≤ pw9 (2 * L) := by
  induction L with
  | zero => decide
  | succ L ih =>
    show pw (L + 1) ≤ pw9 (2 * L + 1 + 1)
    rw [pw_succ, pw9_succ, pw9_succ]
    have := pw_pos L
    omega
theorem pw9_few (k L : Nat) (V : Int) (h1 : pw9 k ≤ V) (h2 : V < pw L) : k ≤ 2 * L := by
  by_cases h : k ≤ 2 * L
  · exact h
  · have := pw9_mono (j := 2 * L) (k := k) (by omega)
    have := pw9_ge L
    omega
theorem pw9_le_mul (k : Nat) (V : Int) (h : 1 ≤ V) : pw9 k ≤ pw9 k * V := by
  have h1 : pw9 k * 1 ≤ pw9 k * V := Int.mul_le_mul_of_nonneg_left h (Int.le_of_lt (pw9_pos k))
  omega
theorem lim9_nonneg {gs : List Int} (h : lim9 gs) : 0 ≤ val9 gs := by
  induction gs with
  | nil => exact Int.le_refl _
  | cons x xs ih =>
    have h1 := h x (by simp)
    have h2 := ih (fun y hy => h y (by simp [hy]))
    simp only [val9]; omega
theorem last_append (gs : List Int) (x : Int) : (gs ++ [x]).getD ((gs ++ [x]).length - 1) 0 = x := by simp

theorem ownBlock_slice (a : Option Addr) (m n c d : Nat) : (Value.slice a m c).ownBlock = (Value.slice a n d).ownBlock := by cases a <;> rfl

set_option maxRecDepth 100000 in
set_option maxHeartbeats 1600000 in
theorem groups_any {base B : Nat} {w : World} {xs : List Int} (a : Option Addr) (c : Nat) (hbox : Box w B 87 (.slice a xs.length c)) (hown : Own base w (.slice a xs.length c) xs) (cx : can xs) (hn : xs.length ≤ 17592186044) :
    Calls Tryd.prog 62 #[.pointer (some ⟨B, 0, none⟩)] w fun e w' => ∃ gs a2 c2, e = .returned (.slice a2 gs.length c2) ∧ Own w.heap.size w' (.slice a2 gs.length c2) gs ∧ lim9 gs ∧ val9 gs = val xs ∧ (gs = [] ∨ ¬ gs.getD (gs.length - 1) 0 = 0) ∧ Kept2 w w' B (Value.slice a xs.length c).ownBlock := by
  go_enter Tryd.func62, Tryd.ntmps62
  go_wp2
  obtain ⟨i0, hi, hz0, hz1, hz2⟩ := info_parts info_u32
  have hBw := lt_of_block hbox
  have hrw : ∀ k, (Value.slice a xs.length c).ownBlock = some k → k < w.heap.size := fun k h => (hown.2.lt k h).2
  have hvx := (val_bound cx.1).2
  go_loopg [3] (val xs).toNat (fun gk s wr => ∃ (zs gs : List Int) (a2 : Option Addr) (c2 : Nat), Hid (gk = (val zs).toNat) ∧ s = .slice a2 gs.length c2 ∧ can zs ∧ zs.length ≤ xs.length ∧ Box wr B 87 (.slice a zs.length c) ∧ Own base wr (.slice a zs.length c) zs ∧ Own w.heap.size wr (.slice a2 gs.length c2) gs ∧ lim9 gs ∧ Hid (val9 gs + pw9 gs.length * val zs = val xs) ∧ Hid (¬ val zs = 0 ∨ gs = [] ∨ ¬ gs.getD (gs.length - 1) 0 = 0) ∧ Kept2 w wr B (Value.slice a xs.length c).ownBlock)
  case atStart => exact ⟨xs, [], none, 0, rfl, rfl, cx, Nat.le_refl _, hbox, hown, ⟨lim_nil, World.ownsRow_nil _ _ _ _⟩, (fun _ h => by cases h), (by unfold Hid; simp [val9, pw9]), Or.inr (Or.inl rfl), Kept2.refl _ _ _⟩
  case round =>
    obtain ⟨zs, gs, a2, c2, hgk, rfl, cz, hzl, hboxr, hownz, howng, hl9, hval, hlast, hkept⟩ := hrel
    have hcr := cell_of_one hboxr
    have hz := can_zero cz
    have hnn := (val_bound cz.1).1
    have hsz := hkept.size
    by_cases h0 : zs.length = 0
    · have hv0 : val zs = 0 := hz.1 h0
      have HV0 : Hid (val zs = 0) := hv0
      have h0' : (zs.length : Int) = 0 := by omega
      clear hz hv0
      go_wp2
      go_ret
      refine ⟨gs, a2, c2, rfl, howng, hl9, ?_, ?_, hkept⟩
      · have := hval.out; rw [HV0.out] at this; simpa using this
      · rcases hlast.out with h | h | h
        · exact absurd HV0.out h
        · exact Or.inl h
        · exact Or.inr h
    · have hv0 : ¬ val zs = 0 := fun h => h0 (hz.2 h)
      have hgl : gs.length ≤ 2 * xs.length := by
        refine pw9_few _ _ (val xs) ?_ hvx
        rw [← hval.out]
        have := pw9_le_mul gs.length (val zs) (by omega)
        have := lim9_nonneg hl9
        omega
      have hpos : 0 < zs.length := by omega
      have HV : Hid (¬ val zs = 0 ∧ 0 ≤ val zs) := ⟨hv0, hnn⟩
      have r0 := Int.emod_nonneg (val zs) (show (1000000000 : Int) ≠ 0 by omega)
      have r1 := Int.emod_lt_of_pos (val zs) (show (0 : Int) < 1000000000 by omega)
      have hneg : ∀ k, (Value.slice a2 gs.length c2).ownBlock = some k → w.heap.size ≤ k := fun k h => (howng.2.lt k h).1
      clear hz hv0 hnn
      go_wp2_with fail
      refine (divLimb_walk a c zs.length 1000000000 (by omega) (by omega) (by decide) rfl hboxr hownz (by omega)).mono ?_
      rintro e w1 ⟨rfl, us, cu, vu, lu, hbox1, hown1, hk1⟩
      have howng1 : Own w.heap.size w1 (.slice a2 gs.length c2) gs := howng.kept2 hk1 (fun e => by have := hneg B e; omega) (fun k hk e => by
        rw [ownBlock_slice a zs.length xs.length c c] at e
        have := hrw k e.symm
        have := hneg k hk
        omega)
      rw [ownBlock_slice a zs.length xs.length c c] at hk1
      have hkept1 := hkept.trans hk1
      generalize hR : val zs % 1000000000 = r at *
      have HR : Hid (val zs % 1000000000 = r) := hR
      have HU : Hid (val us = val zs / 1000000000) := vu
      clear hR vu hcr hboxr hownz howng
      have hsz1 := hkept1.size
      have hb1lt := lt_of_block hbox1
      go_wp2_with (at_builtin; refine wpList_append_own _ rfl _ _ 22 rfl w.heap.size 51 i0 (.int .u32 0) 1 4 Tryd.underlying22 hi hz0 hz1 hz2 rfl (by decide) _ _ _ rfl (howng1.2.alloc _) ⟨w1.heap.size, 0, none⟩ 1 1 [.int .u32 r] rfl rfl ?c1 ?c2 ?c3 ?c4 ?c5 ?_)
      case c1 =>
        intro j u hj
        match j, hj with
        | 0, hj => simp at hj; subst hj; simp [Addr.add]
      case c2 => intro u hu; simp at hu; subst hu; rfl
      case c3 => unfold maxLen; omega
      case c4 => omega
      case c5 => simp; omega
      intro v' w2 hown' hgrow _
      have hO : Own w.heap.size w2 v' (gs ++ [r]) := by
        refine ⟨lim_append.2 ⟨howng1.lim, fun x hx => by simp at hx; omega⟩, ?_⟩
        rw [List.length_append, List.map_append]; exact hown'
      obtain ⟨a3, c3, hv3⟩ := hO.form
      have hbox2 : Box w2 B 87 (.slice a us.length c) := by
        unfold Box
        rw [hgrow.block B (by simp; omega) (fun e => by have := hneg B e.symm; omega), Below.heap_alloc _ _ _ hb1lt]
        exact hbox1
      have hown2 : Own base w2 (.slice a us.length c) us := (hown1.alloc _).grown hgrow (by
        refine Classical.or_iff_not_imp_left.2 fun _ e => ?_
        rcases hh : (Value.slice a us.length c).ownBlock with _ | k
        · contradiction
        · rw [hh] at e
          have h5 := hneg k e.symm
          rw [ownBlock_slice a us.length xs.length c c] at hh
          have := hrw k hh
          omega)
      have hkept2 : Kept2 w w2 B (Value.slice a xs.length c).ownBlock := (hkept1.alloc _).grown hgrow hneg
      rw [hv3] at hO ⊢
      clear hown' hgrow hv3
      go_wp2
      go_roundg (val us).toNat
      case measure => rw [hgk.out, HU.out]; have := HV.out; omega
      case rel => exact ⟨us, gs ++ [r], a3, c3, rfl, rfl, cu, by omega, hbox2, hown2, hO, (fun x hx => by rcases List.mem_append.1 hx with h | h; exact hl9 x h; simp at h; omega), (by unfold Hid; rw [HU.out, ← HR.out]; exact group_step gs _ _ hval.out), (by
        unfold Hid
        by_cases hu0 : val us = 0
        · refine Or.inr (Or.inr ?_)
          rw [last_append]
          have h1 := HV.out; have h2 := HR.out; have h3 := HU.out
          omega
        · exact Or.inl hu0), hkept2⟩
end Go.Proofs.YtibciilhfpgjjadDoor
