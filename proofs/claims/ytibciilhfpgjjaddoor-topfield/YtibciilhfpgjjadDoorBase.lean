/- What a slice of limbs reads as ('Rd'), and what a slice of the call's own holds ('Own'): how both stand behind new memory. -/
import Derived.Test.YtibciilhfpgjjadDoorProg
import Derived.Test.YtibciilhfpgjjadDoorMath
import Derived.WalkKit
import Derived.WalkLawsBesides
namespace Go.Proofs.YtibciilhfpgjjadDoor
set_option linter.unusedVariables false
set_option linter.unusedSimpArgs false
open Go.RowKit

def lenOf : Value → Nat | .slice _ n _ => n | _ => 0
/-- A slice cut at its k-th element. -/
def vtake : Value → Nat → Value | .slice a _ c, k => .slice a k c | v, _ => v

theorem ret_len {a : Option Addr} {c m n : Nat} (h : m = n) : Ending.returned (.slice a m c) = .returned (.slice a n c) := by rw [h]
theorem ret_int {k : IntKind} {a b : Int} (h : a = b) : Ending.returned (.int k a) = .returned (.int k b) := by rw [h]
theorem ret_bool {a b : Bool} (h : a = b) : Ending.returned (.bool a) = .returned (.bool b) := by rw [h]

/-- v reads as the limbs xs; its memory lies below block B. -/
def Rd (B : Nat) (w : World) (v : Value) (xs : List Int) : Prop :=
  lim xs ∧ ∃ a cap, v = .slice a xs.length cap ∧ xs.length ≤ cap ∧ cap ≤ 9223372036854775807 ∧ (a = none → cap = 0) ∧
    (xs.length = 0 ∨ ∃ b off, a = some ⟨b, off, none⟩ ∧ b < B ∧ ∀ j, j < xs.length → w.cell? ⟨b, off + j, none⟩ = some (.int .u32 (xs.getD j 0)))

theorem Rd.lim {B : Nat} {w : World} {v : Value} {xs : List Int} (h : Rd B w v xs) : lim xs := h.1

theorem Rd.below {B : Nat} {w w' : World} {v : Value} {xs : List Int} (h : Rd B w v xs) (hb : Below B w w') : Rd B w' v xs := by
  obtain ⟨hl, a, cap, hv, h1, h2, hn, h3⟩ := h
  refine ⟨hl, a, cap, hv, h1, h2, hn, ?_⟩
  rcases h3 with h3 | ⟨b, off, ha, hbB, hc⟩
  · exact Or.inl h3
  · exact Or.inr ⟨b, off, ha, hbB, fun j hj => (hb.cell (p := ⟨b, off + j, none⟩) hbB).trans (hc j hj)⟩

theorem Rd.mono {B B' : Nat} {w : World} {v : Value} {xs : List Int} (h : Rd B w v xs) (hB : B ≤ B') : Rd B' w v xs := by
  obtain ⟨hl, a, cap, hv, h1, h2, hn, h3⟩ := h
  refine ⟨hl, a, cap, hv, h1, h2, hn, ?_⟩
  rcases h3 with h3 | ⟨b, off, ha, hbB, hc⟩
  · exact Or.inl h3
  · exact Or.inr ⟨b, off, ha, by omega, hc⟩

theorem Rd.take {B : Nat} {w : World} {v : Value} {xs : List Int} (h : Rd B w v xs) (k : Nat) (hk : k ≤ xs.length) : Rd B w (vtake v k) (xs.take k) := by
  obtain ⟨hl, a, cap, hv, h1, h2, hn, h3⟩ := h
  have e : (xs.take k).length = k := by simp; omega
  refine ⟨lim_take hl k, a, cap, by rw [hv, e]; rfl, by omega, h2, hn, ?_⟩
  rcases h3 with h3 | ⟨b, off, ha, hbB, hc⟩
  · exact Or.inl (by omega)
  · refine Or.inr ⟨b, off, ha, hbB, fun j hj => ?_⟩
    rw [hc j (by omega)]
    have : (xs.take k).getD j 0 = xs.getD j 0 := by simp only [List.getD, List.getElem?_take]; rw [if_pos (by omega)]
    rw [this]

/-- v is nil, or the head of a row of the call's own (blocks from 'base' on) that holds the limbs xs. -/
def Own (base : Nat) (w : World) (v : Value) (xs : List Int) : Prop := lim xs ∧ w.ownsRow base 51 1 v xs.length (xs.map (Value.int .u32))

theorem Own.lim {B : Nat} {w : World} {v : Value} {xs : List Int} (h : Own B w v xs) : lim xs := h.1

theorem getD_map_u32 (xs : List Int) (j : Nat) (h : j < xs.length) : (xs.map (Value.int .u32))[j]? = some (.int .u32 (xs.getD j 0)) := by
  simp [List.getD, h]

theorem Own.shape {base : Nat} {w : World} {v : Value} {xs : List Int} (h : Own base w v xs) :
    (v = .slice none 0 0 ∧ xs = []) ∨ ∃ g cap, v = .slice (some ⟨g, 0, none⟩) xs.length cap ∧ base ≤ g ∧ g < w.heap.size ∧ xs.length ≤ cap ∧ cap ≤ 9223372036854775807 := by
  obtain ⟨_, _, h | ⟨g, cap, cur, hv, hg, hh, h1, h2, _, _⟩⟩ := h
  · exact Or.inl ⟨h.1, List.eq_nil_of_length_eq_zero h.2⟩
  · exact Or.inr ⟨g, cap, hv, hg, lt_of_block hh, h1, by unfold maxLen at h2; omega⟩

theorem Own.rd {base : Nat} {w : World} {v : Value} {xs : List Int} (h : Own base w v xs) : Rd w.heap.size w v xs := by
  have hsh := h.shape
  obtain ⟨hl, hrow⟩ := h
  rcases hsh with ⟨rfl, rfl⟩ | ⟨g, cap, rfl, hg, hlt, h1, h2⟩
  · exact ⟨hl, none, 0, rfl, Nat.le_refl _, by omega, fun _ => rfl, Or.inl rfl⟩
  · refine ⟨hl, _, cap, rfl, h1, h2, (fun h => by cases h), Or.inr ⟨g, 0, rfl, hlt, fun j hj => ?_⟩⟩
    have := hrow.cellAt j (by omega)
    rw [getD_map_u32 xs j hj] at this
    rw [Nat.zero_add]; exact this

theorem Own.mono {base base' : Nat} {w : World} {v : Value} {xs : List Int} (h : Own base w v xs) (hB : base' ≤ base) : Own base' w v xs := by
  obtain ⟨hl, h1, h | ⟨g, cap, cur, hv, hg, r⟩⟩ := h
  · exact ⟨hl, h1, Or.inl h⟩
  · exact ⟨hl, h1, Or.inr ⟨g, cap, cur, hv, by omega, r⟩⟩

/-- Behind new memory alone it is owned as it was. -/
theorem Own.below {base B : Nat} {w w' : World} {v : Value} {xs : List Int} (h : Own base w v xs) (hb : Below B w w') (hB : w.heap.size ≤ B) : Own base w' v xs := by
  obtain ⟨hl, h1, h | ⟨g, cap, cur, hv, hg, hh, r⟩⟩ := h
  · exact ⟨hl, h1, Or.inl h⟩
  · exact ⟨hl, h1, Or.inr ⟨g, cap, cur, hv, hg, by rw [hb.block g (Nat.lt_of_lt_of_le (lt_of_block hh) hB)]; exact hh, r⟩⟩

theorem Own.alloc {base : Nat} {w : World} {v : Value} {xs : List Int} (h : Own base w v xs) (o : Obj) : Own base (w.alloc o) v xs := ⟨h.1, h.2.alloc o⟩

theorem Own.grown {base : Nat} {w w' : World} {v : Value} {xs : List Int} {row : Option Nat} (h : Own base w v xs) (hg : w.grownBy w' row) (hne : v.ownBlock = none ∨ v.ownBlock ≠ row) : Own base w' v xs := ⟨h.1, h.2.kept hg hne⟩

theorem Own.setCell {base : Nat} {w : World} {v : Value} {xs : List Int} (h : Own base w v xs) {a : Addr} (ha : v.ownBlock ≠ some a.block) (u : Value) : Own base (w.setCell a u) v xs := ⟨h.1, ownsRow_setCell_other h.2 ha u⟩

theorem Own.take {base : Nat} {w : World} {v : Value} {xs : List Int} (h : Own base w v xs) (k : Nat) (hk : k ≤ xs.length) : Own base w (vtake v k) (xs.take k) := by
  have e : (xs.take k).length = k := by simp; omega
  obtain ⟨hl, h1, h | ⟨g, cap, cur, hv, hg, hh, h2, h3, h4, h5⟩⟩ := h
  · have : xs = [] := List.eq_nil_of_length_eq_zero h.2
    subst this
    have hk0 : k = 0 := by simpa using hk
    subst hk0
    rw [h.1]
    exact ⟨lim_take hl 0, by simp, Or.inl ⟨rfl, rfl⟩⟩
  · refine ⟨lim_take hl k, by simp, Or.inr ⟨g, cap, cur, by rw [hv, e]; rfl, hg, hh, by omega, h3, h4, ?_⟩⟩
    rw [e, List.map_take, ← h5, List.take_take]
    congr 1
    omega

theorem ownBlock_vtake (v : Value) (k : Nat) : (vtake v k).ownBlock = v.ownBlock := by
  cases v <;> try rfl
  rename_i a n c
  cases a <;> rfl

end Go.Proofs.YtibciilhfpgjjadDoor
