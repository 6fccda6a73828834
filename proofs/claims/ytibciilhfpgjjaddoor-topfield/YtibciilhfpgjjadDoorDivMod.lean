/- nat.DivMod, over what (*divider).by does. -/
import Derived.Test.YtibciilhfpgjjadDoorByOne
namespace Go.Proofs.YtibciilhfpgjjadDoor
set_option linter.unusedVariables false
set_option linter.unusedSimpArgs false
open Go.RowKit

/-- (*divider).by divides as it should by ys. -/
def ByOK (ys : List Int) : Prop := ∀ (base B ty Br : Nat) (w : World) (bv : Value) (xs : List Int), ty ≠ 51 → St base w B ty xs → can xs → xs.length ≤ 17592186044415 → Rd Br w bv ys → Br ≤ base →
  Calls Tryd.prog 74 #[.pointer (some ⟨B, 0, none⟩), bv] w fun e w' => Divides base w B ty xs ys e w'

theorem byOK_one (d : Int) (h : can [d]) : ByOK [d] := by
  intro base B ty Br w bv xs hty hs cx hn hb hBr
  have hd0 := h.1 d (by simp)
  have hd1 : d ≠ 0 := by
    rcases h.2 with h | h
    · simp at h
    · simpa using h
  obtain ⟨_, ba, bc, rfl, _, _, _, kb⟩ := hb
  by_cases hx : xs.length < 1
  · exact by_short 1 bc ba hs cx h rfl hx hn (by omega)
  · rcases kb with kb | ⟨g, o, rfl, hg, hc⟩
    · simp at kb
    · exact by_one bc d hty (by omega) hd0.2 hs (by omega) (by omega) (hc 0 (by simp)) hn

/-- What nat.DivMod hands back where the divisor is not 0. -/
def DivMods (w : World) (xs ys : List Int) (e : Ending) (w' : World) : Prop :=
  ∃ qs rs a c a2 c2, e = .returned (.tuple #[.slice a qs.length c, .slice a2 rs.length c2, .bool true]) ∧ Own w.heap.size w' (.slice a qs.length c) qs ∧ Own w.heap.size w' (.slice a2 rs.length c2) rs ∧ can qs ∧ can rs ∧ val xs = val qs * val ys + val rs ∧ val rs < val ys ∧ qs.length ≤ xs.length ∧ rs.length ≤ xs.length ∧ Below w.heap.size w w'

theorem below_drewN' {B : Nat} {a w : World} (h : Below B a w) (n : Nat) : Below B a (w.drewN n) := h.trans ⟨rfl, rfl, rfl, Nat.le_refl _, fun _ _ => rfl⟩

set_option maxHeartbeats 800000 in
theorem divMod_pos {B1 B2 : Nat} {w : World} {v1 v2 : Value} {xs ys : List Int} (h1 : Rd B1 w v1 xs) (hB1 : B1 ≤ w.heap.size) (h2 : Rd B2 w v2 ys) (hB2 : B2 ≤ w.heap.size) (hy : ¬ val ys = 0) (hby : ByOK (tr ys)) (hn : xs.length ≤ 17592186044415) (hm : ys.length ≤ 17592186044415) :
    Calls Tryd.prog 61 #[v1, v2] w fun e w' => DivMods w xs ys e w' := by
  have hm2 := meant_rd h2
  have hr2 := h2.meant
  have ct := tr_can h2.lim
  have hl0 : ¬ (tr ys).length = 0 := by rw [can_zero ct, val_tr]; exact hy
  have hl1 := tr_length_le ys
  rw [← tr_length] at hm2 hr2
  have hsh : ∃ a c, vtake v2 (tr ys).length = .slice a (tr ys).length c := by
    obtain ⟨_, a, c, rfl, _⟩ := h2
    exact ⟨a, c, rfl⟩
  obtain ⟨ba, bc, hv⟩ := hsh
  rw [hv] at hm2 hr2
  clear hv
  have hvt := val_tr ys
  generalize tr ys = ys' at *
  generalize hM : ys'.length = m at *
  have HM : Hid (ys'.length = m) := hM
  have HVT : Hid (val ys' = val ys) := hvt
  have hmb : ((m : Int) == 0) = false := by simp; omega
  clear hM hvt
  go_enter Tryd.func61, Tryd.ntmps61
  go_wp2_with fail
  refine (hm2).mono ?_
  rintro e w' ⟨rfl, rfl⟩
  go_wp2_with fail
  refine (begin_any h1 hB1 (by omega)).mono ?_
  intro e w1 hm1
  obtain ⟨a, c, rfl, ho, hb⟩ := hm1
  have hz := hb.size
  have hl2 := tr_length_le xs
  have cx := tr_can h1.lim
  have hvx := val_tr xs
  generalize tr xs = xs' at *
  have HVX : Hid (val xs' = val xs) := hvx
  clear hvx
  go_wp2_with fail
  have hst : St w.heap.size (w1.alloc (.cells #[.slice a xs'.length c] 74)) w1.heap.size 74 xs' := ⟨a, c, heap_alloc_new _ _, ho.alloc _, hz, by simp; omega⟩
  have hr3 : Rd B2 (w1.alloc (.cells #[.slice a xs'.length c] 74)) (.slice ba m bc) ys' := hr2.below ((hb.mono hB2).alloc (by omega) _)
  refine (hby _ _ _ _ _ _ _ (by decide) hst cx (by omega) hr3 hB2).mono ?_
  rintro e w2 ⟨qs, rs, a2, c2, rfl, hq, cq, cr, ⟨a3, c3, hbox3, hown3, _, hbs3⟩, hval, hlt, hql, hrl, hbl2⟩
  have hc3 := cell_of_one hbox3
  have hlt3 := lt_of_block hbox3
  go_wp2
  go_quiet (fail)
  go_wp2
  go_ret3
  refine ⟨qs, rs, a2, c2, a3, c3, rfl, hq, hown3, cq, cr, ?_, ?_, by omega, by omega, ?_⟩
  · rw [← HVX.out, ← HVT.out]; exact hval
  · rw [← HVT.out]; exact hlt
  · exact below_drewN' ((hb.alloc hz _).trans hbl2) _
end Go.Proofs.YtibciilhfpgjjadDoor
