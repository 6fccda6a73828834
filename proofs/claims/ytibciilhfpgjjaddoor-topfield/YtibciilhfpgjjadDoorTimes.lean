/- nat's running numbers: begin, beginAt, trim, times. -/
import Derived.Test.YtibciilhfpgjjadDoorTrim
namespace Go.Proofs.YtibciilhfpgjjadDoor
set_option linter.unusedVariables false
set_option linter.unusedSimpArgs false
open Go.RowKit

/-- One cell of a local variable whose address is taken. -/
def Box (w : World) (B : Nat) (ty : TypeId) (v : Value) : Prop := w.heap[B]? = some (.cells #[v] ty (0, 0))

/-- The same of a call that hands back a running number. -/
def BoxMakes (w : World) (e : Ending) (w' : World) (xs : List Int) : Prop := ∃ a c, e = .returned (.agg #[.slice a xs.length c]) ∧ Own w.heap.size w' (.slice a xs.length c) xs ∧ Below w.heap.size w w'

theorem ownBlock_ne {base k : Nat} {w : World} {v : Value} {xs : List Int} (h : Own base w v xs) (hk : k < base) : v.ownBlock ≠ some k := by
  intro e
  have := (h.2.lt k e).1
  omega

set_option maxHeartbeats 400000 in
theorem beginAt_any (n : Int) (h0 : 0 ≤ n) (h1 : n < 18446744073709551616) (w : World) :
    Calls Tryd.prog 67 #[.int .u64 n] w fun e w' => BoxMakes w e w' (tr [n % 4294967296, n / 4294967296]) := by
  go_enter Tryd.func67, Tryd.ntmps67
  go_wp2_with fail
  refine (of_any n h0 h1 _).mono ?_
  intro e w1 hm
  obtain ⟨a, c, rfl, ho, hb⟩ := hm
  have hz : w.heap.size < w1.heap.size := by have := hb.size; simp at this; omega
  have hbx : Box w1 w.heap.size 72 (.slice none 0 0) := by unfold Box; rw [hb.block _ (by simp)]; exact heap_alloc_new _ _
  have hc := cell_of_one hbx
  have hf := free_of_one hbx
  have hs : ∀ u, (w1.setCell ⟨w.heap.size, 0, none⟩ u).cell? ⟨w.heap.size, 0, none⟩ = some u := fun u => cell_of_one (one_setCell (u := u) hbx)
  generalize hN : (tr [n % 4294967296, n / 4294967296]).length = N at *
  have HN : Hid ((tr [n % 4294967296, n / 4294967296]).length = N) := hN
  clear hN hbx
  go_wp2
  refine bodyPost_ret (v := .agg #[.slice a N c]) (by simp [results, Tryd.results67, go_sem, hz, hs]) rfl ?_
  obtain rfl := HN.out
  exact ⟨a, c, rfl, ((ho.mono (by simp)).setCell (ownBlock_ne ho (by simp)) _), (((Below.refl _ w).alloc (Nat.le_refl _) _).trans (hb.mono (by simp))).setCell (Nat.le_refl _) _⟩

set_option maxHeartbeats 400000 in
theorem trimM_any {B ty Br : Nat} {w : World} {v : Value} {xs : List Int} (hbox : Box w B ty v) (h : Rd Br w v xs) :
    Calls Tryd.prog 78 #[.pointer (some ⟨B, 0, none⟩)] w fun e w' => e = .returned (.tuple #[]) ∧ w' = w.setCell ⟨B, 0, none⟩ (vtake v (tl xs xs.length)) := by
  have hc := cell_of_one hbox
  have hf := free_of_one hbox
  have hm := meant_rd h
  have hsh : ∃ a n c, vtake v (tl xs xs.length) = .slice a n c := by
    obtain ⟨_, a, c, rfl, _⟩ := h
    exact ⟨a, _, c, rfl⟩
  obtain ⟨a, n, c, hv⟩ := hsh
  rw [hv] at hm ⊢
  clear h hbox hv
  go_enter Tryd.func78, Tryd.ntmps78
  go_wp2_with fail
  refine (hm).mono ?_
  rintro e w' ⟨rfl, rfl⟩
  go_wp2
  go_end0
  exact ⟨rfl, rfl⟩
end Go.Proofs.YtibciilhfpgjjadDoor
