/- begin; (*divider).by where the divisor has one limb, or more limbs than the number. -/
import Derived.Test.YtibciilhfpgjjadDoorDivLimb
import Derived.Deep.RegionWith
namespace Go.Proofs.YtibciilhfpgjjadDoor
set_option linter.unusedVariables false
set_option linter.unusedSimpArgs false
open Go.RowKit

set_option maxHeartbeats 400000 in
theorem begin_any {B : Nat} {w : World} {v : Value} {xs : List Int} (h : Rd B w v xs) (hB : B ≤ w.heap.size) (hsz : xs.length * 4 ≤ 140737488355328) :
    Calls Tryd.prog 58 #[v] w fun e w' => BoxMakes w e w' (tr xs) := by
  have hr : Rd B (w.alloc (.cells #[.slice none 0 0] 72)) v xs := h.below ((Below.refl _ _).alloc hB _)
  go_enter Tryd.func58, Tryd.ntmps58
  go_wp2_with fail
  refine (trim_rd hr hsz).mono ?_
  intro e w1 hm
  obtain ⟨a, c, rfl, ho, hb⟩ := hm
  have hz : w.heap.size < w1.heap.size := by have := hb.size; simp at this; omega
  have hbx : Box w1 w.heap.size 72 (.slice none 0 0) := by unfold Box; rw [hb.block _ (by simp)]; exact heap_alloc_new _ _
  have hc := cell_of_one hbx
  have hf := free_of_one hbx
  have hs : ∀ u, (w1.setCell ⟨w.heap.size, 0, none⟩ u).cell? ⟨w.heap.size, 0, none⟩ = some u := fun u => cell_of_one (one_setCell (u := u) hbx)
  generalize hN : (tr xs).length = N at *
  have HN : Hid ((tr xs).length = N) := hN
  clear hN hbx
  go_wp2
  refine bodyPost_ret (v := .agg #[.slice a N c]) (by simp [results, Tryd.results58, go_sem, hz, hs]) rfl ?_
  obtain rfl := HN.out
  exact ⟨a, c, rfl, ((ho.mono (by simp)).setCell (ownBlock_ne ho (by simp)) _), (((Below.refl _ w).alloc (Nat.le_refl _) _).trans (hb.mono (by simp))).setCell (Nat.le_refl _) _⟩

/-- What (*divider).by leaves of xs by ys: the quotient, of the call's own, and what is left in the variable. -/
def Divides (base : Nat) (w : World) (B ty : Nat) (xs ys : List Int) (e : Ending) (w' : World) : Prop :=
  ∃ qs rs a c, e = .returned (.slice a qs.length c) ∧ Own base w' (.slice a qs.length c) qs ∧ can qs ∧ can rs ∧ St base w' B ty rs ∧ val xs = val qs * val ys + val rs ∧ val rs < val ys ∧ qs.length ≤ xs.length ∧ rs.length ≤ xs.length ∧ Below base w w'

set_option maxHeartbeats 400000 in
theorem by_short {base B ty : Nat} {w : World} {xs ys : List Int} (m bc : Nat) (ba : Option Addr) (hs : St base w B ty xs) (cx : can xs) (cy : can ys) (hy : ys.length = m) (hlt : xs.length < m) (hn : xs.length ≤ 17592186044415) (hm : m ≤ 17592186044415) :
    Calls Tryd.prog 74 #[.pointer (some ⟨B, 0, none⟩), .slice ba m bc] w fun e w' => Divides base w B ty xs ys e w' := by
  obtain ⟨a, c, hbox, hown, hBb, hbs⟩ := hs
  have hc := cell_of_one hbox
  have HY : Hid (ys.length = m) := hy
  clear hy
  go_enter Tryd.func74, Tryd.ntmps74
  go_wp2
  go_ret
  refine ⟨[], xs, none, 0, rfl, ⟨lim_nil, World.ownsRow_nil _ _ _ _⟩, can_nil, cx, ⟨a, c, hbox, hown, hBb, hbs⟩, by simp [val], can_len_lt cx cy (by rw [HY.out]; exact hlt), Nat.zero_le _, Nat.le_refl _, Below.refl _ _⟩

theorem of_limb (r : Int) (h0 : 0 ≤ r) (h1 : r < 4294967296) : val (tr [r % 4294967296, r / 4294967296]) = r ∧ can (tr [r % 4294967296, r / 4294967296]) ∧ (tr [r % 4294967296, r / 4294967296]).length ≤ 1 := by
  have hl : lim [r % 4294967296, r / 4294967296] := by
    intro x hx; simp at hx; omega
  refine ⟨by rw [val_tr]; simp only [val]; omega, tr_can hl, ?_⟩
  rw [tr_length]
  have e : r / 4294967296 = 0 := by omega
  show tl [r % 4294967296, r / 4294967296] (1 + 1) ≤ 1
  rw [tl_zero _ _ (by simpa using e)]
  exact tl_le _ _

theorem St.drew {base B ty : Nat} {w : World} {xs : List Int} (h : St base w B ty xs) : St base w.drew B ty xs := h

set_option maxRecDepth 100000 in
set_option maxHeartbeats 1600000 in
theorem by_one {base B ty g o : Nat} {w : World} {xs : List Int} (bc : Nat) (d : Int) (hty : ty ≠ 51) (hd0 : 0 < d) (hd1 : d < 4294967296) (hs : St base w B ty xs) (hx1 : 1 ≤ xs.length) (hg : g < base) (hcell : w.cell? ⟨g, o, none⟩ = some (.int .u32 d)) (hn : xs.length ≤ 17592186044415) :
    Calls Tryd.prog 74 #[.pointer (some ⟨B, 0, none⟩), .slice (some ⟨g, o, none⟩) 1 bc] w fun e w' => Divides base w B ty xs [d] e w' := by
  have hs0 := hs
  obtain ⟨a, c, hbox, hown, hBb, hbs⟩ := hs
  have hc := cell_of_one hbox
  have hsz := lt_of_block hbox
  have hx1b : decide ((xs.length : Int) < 1) = false := by simp; omega
  have r0 := Int.emod_nonneg (val xs) (show d ≠ 0 by omega)
  have r1 := Int.emod_lt_of_pos (val xs) hd0
  have hdm : d * (val xs / d) + val xs % d = val xs := Int.mul_ediv_add_emod (val xs) d
  generalize hR : val xs % d = r at *
  generalize hQ : val xs / d = q at *
  have HR : Hid (val xs % d = r) := hR
  have HQ : Hid (val xs / d = q) := hQ
  have HD : Hid (d * q + r = val xs) := hdm
  clear hR hQ hdm
  go_enter Tryd.func74, Tryd.ntmps74
  go_wp2
  go_region_with (go_at_call 79; refine (divLimb_any d hd0 hd1 hty (by first | exact hs0 | exact hs0.drew) hn).mono ?_; rintro e w1 ⟨rfl, zs, cz, vz, lz, ⟨a1, c1, hbox1, hown1, _, hbs1⟩, hbl1⟩; rw [HR.out])
  have hc1 := cell_of_one hbox1
  have hf1 := free_of_one hbox1
  have hlt1 := lt_of_block hbox1
  rw [HQ.out] at vz
  have HZ : Hid (val zs = q) := vz
  clear vz
  go_wp2_with fail
  refine (beginAt_any r r0 (by omega) _).mono ?_
  intro e w2 hm2
  obtain ⟨a2, c2, rfl, hown2, hbl2⟩ := hm2
  have hO := of_limb r r0 (by omega)
  generalize tr [r % 4294967296, r / 4294967296] = rs at *
  have HO : Hid (val rs = r ∧ can rs ∧ rs.length ≤ 1) := hO
  clear hO
  have hbox2 : Box w2 B ty (.slice a1 zs.length c1) := by unfold Box; rw [hbl2.block B hlt1]; exact hbox1
  have hown1' : Own base w2 (.slice a1 zs.length c1) zs := hown1.below hbl2 (Nat.le_refl _)
  have hc2 := cell_of_one hbox2
  have hf2 := free_of_one hbox2
  have hsz2 := hbl2.size
  clear hc1 hf1 hc
  go_wp2
  go_ret
  have hown2' := hown2.mono (base' := base) hbs1
  refine ⟨zs, rs, a1, c1, rfl, hown1'.setCell (own_box_ne hbox2 hown1' hty) _, cz, HO.out.2.1, ⟨a2, c2, one_setCell hbox2, hown2'.setCell (own_box_ne hbox2 hown2' hty) _, hBb, by simp; omega⟩, ?_, ?_, lz, by have := HO.out.2.2; omega, ((Below.refl _ w).drew.trans (hbl1.trans (hbl2.mono (by omega)))).setCell hBb _⟩
  · rw [HZ.out, HO.out.1]; simp only [val]; rw [← HD.out, Int.mul_comm q]; simp
  · rw [HO.out.1]; simp only [val]; omega
end Go.Proofs.YtibciilhfpgjjadDoor
