/- (*divider).by at whatever divisor but 0; nat.DivMod at all. nat.word. -/
import Derived.Test.YtibciilhfpgjjadDoorLong
namespace Go.Proofs.YtibciilhfpgjjadDoor
set_option linter.unusedVariables false
set_option linter.unusedSimpArgs false
open Go.RowKit

theorem Kept2.weak {w w' : World} {B : Nat} (h : Kept2 w w' B none) (r : Option Nat) : Kept2 w w' B r := ⟨h.os, h.tape, h.output, h.size, fun k hk hB _ => h.block k hk hB (fun e => by cases e)⟩
theorem Kept2.undrew {w w' : World} {B : Nat} {r : Option Nat} (h : Kept2 w.drew w' B r) : Kept2 w w' B r := ⟨h.os, h.tape, h.output, h.size, h.block⟩
theorem Kept2.grow' {a w w' : World} {B : Nat} {r : Option Nat} (h : Kept2 a w B r) (k : Below w.heap.size w w') : Kept2 a w' B r :=
  ⟨k.os.trans h.os, k.tape.trans h.tape, k.output.trans h.output, Nat.le_trans h.size k.size, fun i hi hB hr => (k.block i (Nat.lt_of_lt_of_le hi h.size)).trans (h.block i hi hB hr)⟩

set_option maxHeartbeats 400000 in
theorem by_short2 {base B ty c : Nat} {w : World} {a : Option Addr} {xs ys : List Int} (m bc : Nat) (ba : Option Addr) (hbox : Box w B ty (.slice a xs.length c)) (hown : Own base w (.slice a xs.length c) xs) (cx : can xs) (cy : can ys) (hy : ys.length = m) (hlt : xs.length < m) (hn : xs.length ≤ 17592186044415) (hm : m ≤ 17592186044415) :
    Calls Tryd.prog 74 #[.pointer (some ⟨B, 0, none⟩), .slice ba m bc] w fun e w' => Divides2 base w B ty none (Value.slice a xs.length c).ownBlock xs ys e w' := by
  have hc := cell_of_one hbox
  have HY : Hid (ys.length = m) := hy
  clear hy
  go_enter Tryd.func74, Tryd.ntmps74
  go_wp2
  go_ret
  exact ⟨[], xs, none, 0, a, c, rfl, ⟨lim_nil, World.ownsRow_nil _ _ _ _⟩, can_nil, cx, hbox, hown, by simp [val], can_len_lt cx cy (by rw [HY.out]; exact hlt), Nat.zero_le _, Nat.le_refl _, by rw [HY.out]; omega, (fun k hk => Or.inl hk.symm), Kept2.refl _ _ _⟩

set_option maxRecDepth 100000 in
set_option maxHeartbeats 1600000 in
theorem by_one2 {base B ty c g o : Nat} {w : World} {a : Option Addr} {xs : List Int} (bc : Nat) (d : Int) (hty : ty ≠ 51) (hd0 : 0 < d) (hd1 : d < 4294967296) (hbox : Box w B ty (.slice a xs.length c)) (hown : Own base w (.slice a xs.length c) xs) (hBb : base ≤ B) (hbs : base ≤ w.heap.size) (hx1 : 1 ≤ xs.length) (hcell : w.cell? ⟨g, o, none⟩ = some (.int .u32 d)) (hn : xs.length ≤ 17592186044415) :
    Calls Tryd.prog 74 #[.pointer (some ⟨B, 0, none⟩), .slice (some ⟨g, o, none⟩) 1 bc] w fun e w' => Divides2 base w B ty (Value.slice a xs.length c).ownBlock (Value.slice a xs.length c).ownBlock xs [d] e w' := by
  have hbox0 := hbox
  have hown0 := hown
  have hc := cell_of_one hbox
  have hsz := lt_of_block hbox
  have hx1b : decide ((xs.length : Int) < 1) = false := by simp; omega
  have r0 := Int.emod_nonneg (val xs) (show d ≠ 0 by omega)
  have r1 := Int.emod_lt_of_pos (val xs) hd0
  have hdm : d * (val xs / d) + val xs % d = val xs := Int.mul_ediv_add_emod (val xs) d
  generalize hR : val xs % d = r at *
  generalize hQ : val xs / d = q at *
  have HR : Hid (val xs % d = r) := hR
  have HQ : Hid (val xs / d = q) := hQ
  have HD : Hid (d * q + r = val xs) := hdm
  clear hR hQ hdm
  go_enter Tryd.func74, Tryd.ntmps74
  go_wp2
  go_region_with (go_at_call 79; refine (divLimb_walk a c xs.length d hd0 hd1 hty rfl (by first | exact hbox0 | exact hbox0.drew) (by first | exact hown0 | exact hown0.drew) hn).mono ?_; rintro e w1 ⟨rfl, zs, cz, vz, lz, hbox1, hown1, hk1⟩; rw [HR.out])
  have hc1 := cell_of_one hbox1
  have hf1 := free_of_one hbox1
  have hlt1 := lt_of_block hbox1
  have hs1 : w.heap.size ≤ w1.heap.size := hk1.size
  rw [HQ.out] at vz
  have HZ : Hid (val zs = q) := vz
  clear vz
  go_wp2_with fail
  refine (beginAt_any r r0 (by omega) _).mono ?_
  intro e w2 hm2
  obtain ⟨a2, c2, rfl, hown2, hbl2⟩ := hm2
  have hO := of_limb r r0 (by omega)
  generalize tr [r % 4294967296, r / 4294967296] = rs at *
  have HO : Hid (val rs = r ∧ can rs ∧ rs.length ≤ 1) := hO
  clear hO
  have hbox2 : Box w2 B ty (.slice a zs.length c) := by unfold Box; rw [hbl2.block B hlt1]; exact hbox1
  have hown1' : Own base w2 (.slice a zs.length c) zs := hown1.below hbl2 (Nat.le_refl _)
  have hc2 := cell_of_one hbox2
  have hf2 := free_of_one hbox2
  have hsz2 := hbl2.size
  clear hc1 hf1 hc
  go_wp2
  go_ret
  have hown2' := hown2.mono (base' := base) (by omega)
  have hk1' : Kept2 w w1 B (Value.slice a xs.length c).ownBlock := ⟨hk1.os, hk1.tape, hk1.output, hk1.size, hk1.block⟩
  refine ⟨zs, rs, a, c, a2, c2, rfl, hown1'.setCell (own_box_ne hbox2 hown1' hty) _, cz, HO.out.2.1, one_setCell hbox2, hown2'.setCell (own_box_ne hbox2 hown2' hty) _, ?_, ?_, lz, by have := HO.out.2.2; omega, HO.out.2.2, (fun k hk => Or.inr (by have := (hown2.2.lt k hk).1; omega)), (hk1'.grow' hbl2).setCell (Or.inl rfl) _⟩
  · rw [HZ.out, HO.out.1]; simp only [val]; rw [← HD.out, Int.mul_comm q]; simp
  · rw [HO.out.1]; simp only [val]; omega

/-- (*divider).by at whatever divisor but 0. -/
theorem by_any2 {base B ty c Br : Nat} {w : World} {a : Option Addr} {bv : Value} {xs ys : List Int} (hty : ty ≠ 51) (hbox : Box w B ty (.slice a xs.length c)) (hown : Own base w (.slice a xs.length c) xs) (hBb : base ≤ B) (hbs : base ≤ w.heap.size) (cx : can xs) (cy : can ys) (hy0 : ¬ ys.length = 0) (hn : xs.length ≤ 17592186044415) (hm : ys.length ≤ 17592186044415) (hb : Rd Br w bv ys) (hBr : Br ≤ w.heap.size) :
    Calls Tryd.prog 74 #[.pointer (some ⟨B, 0, none⟩), bv] w fun e w' => Divides2 base w B ty (Value.slice a xs.length c).ownBlock (Value.slice a xs.length c).ownBlock xs ys e w' := by
  have weak : ∀ e w', Divides2 base w B ty none (Value.slice a xs.length c).ownBlock xs ys e w' → Divides2 base w B ty (Value.slice a xs.length c).ownBlock (Value.slice a xs.length c).ownBlock xs ys e w' := by
    rintro e w' ⟨qs, rs, a1, c1, a2, c2, h1, h2, h3, h4, h5, h6, h7, h8, h9, h10, h11, h13, h12⟩
    exact ⟨qs, rs, a1, c1, a2, c2, h1, h2, h3, h4, h5, h6, h7, h8, h9, h10, h11, h13, h12.weak _⟩
  obtain ⟨_, ba, bc, rfl, _, _, _, kb⟩ := hb
  rcases kb with kb | ⟨g, o, rfl, hg, hcb⟩
  · exact absurd kb hy0
  by_cases hlt : xs.length < ys.length
  · exact (by_short2 ys.length bc _ hbox hown cx cy rfl hlt (by omega) (by omega)).mono weak
  · by_cases h1 : ys.length = 1
    · match ys, h1 with
      | [d], _ =>
        have hd0 := cy.1 d (by simp)
        have hd1 : d ≠ 0 := by
          rcases cy.2 with h | h
          · simp at h
          · simpa using h
        exact by_one2 bc d hty (by omega) hd0.2 hbox hown hBb hbs (by have h : ¬ xs.length < 1 := hlt; omega) (hcb 0 (by simp)) (by omega)
    · obtain ⟨m, hm2⟩ : ∃ m, ys.length = m + 2 := ⟨ys.length - 2, by omega⟩
      rw [hm2] at hcb ⊢
      exact (by_long hty rfl hm2 hbox hown hBb hbs cy (by omega) hn ⟨g, o, rfl, by omega, hcb⟩).mono weak

theorem byOK_any (ys : List Int) (cy : can ys) (hy : ¬ ys.length = 0) (hm : ys.length ≤ 17592186044415) : ByOK ys := by
  intro base B ty Br w bv xs hty hs cx hn hb hBr
  obtain ⟨a, c, hbox, hown, hBb, hbs⟩ := hs
  refine (by_any2 hty hbox hown hBb hbs cx cy hy hn hm hb (by omega)).mono ?_
  rintro e w' ⟨qs, rs, a1, c1, a2, c2, h1, h2, h3, h4, h5, h6, h7, h8, h9, h10, h11, h13, h12⟩
  exact ⟨qs, rs, a1, c1, h1, h2, h3, h4, ⟨a2, c2, h5, h6, hBb, by have := h12.size; omega⟩, h7, h8, h9, h10, h12.below hBb hbs (fun k hk => (hown.2.lt k hk).1)⟩

/-- nat.DivMod where the divisor is not 0. -/
theorem divMod_any {B1 B2 : Nat} {w : World} {v1 v2 : Value} {xs ys : List Int} (h1 : Rd B1 w v1 xs) (hB1 : B1 ≤ w.heap.size) (h2 : Rd B2 w v2 ys) (hB2 : B2 ≤ w.heap.size) (hy : ¬ val ys = 0) (hn : xs.length ≤ 17592186044415) (hm : ys.length ≤ 17592186044415) :
    Calls Tryd.prog 61 #[v1, v2] w fun e w' => DivMods w xs ys e w' :=
  divMod_pos h1 hB1 h2 hB2 hy (byOK_any _ (tr_can h2.lim) (by rw [can_zero (tr_can h2.lim), val_tr]; exact hy) (by have := tr_length_le ys; omega)) hn hm

set_option maxHeartbeats 800000 in
/-- nat.DivMod by 0. -/
theorem divMod_zero {B2 : Nat} {w : World} {v1 v2 : Value} {ys : List Int} (h2 : Rd B2 w v2 ys) (hy : val ys = 0) :
    Calls Tryd.prog 61 #[v1, v2] w fun e w' => e = .returned (.tuple #[.slice none 0 0, .slice none 0 0, .bool false]) ∧ w' = w := by
  have hm2 := meant_rd h2
  have ct := tr_can h2.lim
  have hl0 : (tr ys).length = 0 := by rw [can_zero ct, val_tr]; exact hy
  rw [← tr_length, hl0] at hm2
  have hsh : ∃ a c, vtake v2 0 = .slice a 0 c := by
    obtain ⟨_, a, c, rfl, _⟩ := h2
    exact ⟨a, c, rfl⟩
  obtain ⟨ba, bc, hv⟩ := hsh
  rw [hv] at hm2
  clear hv h2 hl0
  go_enter Tryd.func61, Tryd.ntmps61
  go_wp2_with fail
  refine (hm2).mono ?_
  rintro e w' ⟨rfl, rfl⟩
  go_wp2
  go_ret3
  exact ⟨rfl, rfl⟩
end Go.Proofs.YtibciilhfpgjjadDoor
