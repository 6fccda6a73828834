/- Sums and products of two and of three numbers; Compare as a call that turns no memory. -/
import Derived.Test.YtibciilhfpgjjadDoorLive0
namespace Go.Proofs.YtibciilhfpgjjadDoor
set_option linter.unusedVariables false
set_option linter.unusedSimpArgs false
open Go.RowKit

theorem compare_bl {B B' : Nat} {w : World} {v1 v2 : Value} {xs ys : List Int} (h1 : Rd B w v1 xs) (h2 : Rd B' w v2 ys) :
    Calls Tryd.prog 40 #[v1, v2] w fun e w' => e = .returned (.int .i64 (cmpI (val xs) (val ys))) ∧ Below w.heap.size w w' := by
  refine (compare_rd h1 h2).mono ?_
  rintro e w' ⟨rfl, n, rfl⟩
  exact ⟨rfl, below_drewN' (Below.refl _ _) n⟩

theorem rd_alloc {B : Nat} {w : World} {v : Value} {xs : List Int} (h : Rd B w v xs) (hB : B ≤ w.heap.size) (o : Obj) : Rd (w.heap.size + 1) (w.alloc o) v xs :=
  (h.below ((Below.refl _ w).alloc hB o)).mono (by omega)

theorem many3 {B1 B2 B3 : Nat} {w : World} {v1 v2 v3 : Value} {x1 x2 x3 : List Int} (h1 : Rd B1 w v1 x1) (h2 : Rd B2 w v2 x2) (h3 : Rd B3 w v3 x3) (b1 : B1 ≤ w.heap.size) (b2 : B2 ≤ w.heap.size) (b3 : B3 ≤ w.heap.size) :
    Many (w.alloc (.cells #[v1, v2, v3] 22)) w.heap.size 3 [v1, v2, v3] [x1, x2, x3] where
  lv := rfl
  lx := rfl
  lt := by simp
  cell := fun j hj => by
    match j, hj with
    | 0, _ => simp
    | 1, _ => simp
    | 2, _ => simp
  rd := fun j hj => by
    rw [show (w.alloc (.cells #[v1, v2, v3] 22)).heap.size = w.heap.size + 1 by simp]
    match j, hj with
    | 0, _ => exact rd_alloc h1 b1 _
    | 1, _ => exact rd_alloc h2 b2 _
    | 2, _ => exact rd_alloc h3 b3 _

theorem many2 {B1 B2 : Nat} {w : World} {v1 v2 : Value} {x1 x2 : List Int} (h1 : Rd B1 w v1 x1) (h2 : Rd B2 w v2 x2) (b1 : B1 ≤ w.heap.size) (b2 : B2 ≤ w.heap.size) :
    Many (w.alloc (.cells #[v1, v2] 22)) w.heap.size 2 [v1, v2] [x1, x2] where
  lv := rfl
  lx := rfl
  lt := by simp
  cell := fun j hj => by
    match j, hj with
    | 0, _ => simp
    | 1, _ => simp
  rd := fun j hj => by
    rw [show (w.alloc (.cells #[v1, v2] 22)).heap.size = w.heap.size + 1 by simp]
    match j, hj with
    | 0, _ => exact rd_alloc h1 b1 _
    | 1, _ => exact rd_alloc h2 b2 _

section
variable {B1 B2 B3 : Nat} {w : World} {v1 v2 v3 : Value} {x1 x2 x3 : List Int}

theorem sum3 (h1 : Rd B1 w v1 x1) (h2 : Rd B2 w v2 x2) (h3 : Rd B3 w v3 x3) (b1 : B1 ≤ w.heap.size) (b2 : B2 ≤ w.heap.size) (b3 : B3 ≤ w.heap.size) (l1 : x1.length ≤ 1000000) (l2 : x2.length ≤ 1000000) (l3 : x3.length ≤ 1000000) :
    Calls Tryd.prog 53 #[.slice (some ⟨w.heap.size, 0, none⟩) 3 3] (w.alloc (.cells #[v1, v2, v3] 22)) fun e w' => ∃ zs, can zs ∧ val zs = val x1 + val x2 + val x3 ∧ zs.length ≤ 3 + (x1.length + x2.length + x3.length) ∧ Makes w e w' zs := by
  refine (sum_any (many3 h1 h2 h3 b1 b2 b3) (by omega) (by simp [sumL]; omega)).mono ?_
  rintro e w' ⟨zs, cz, vz, lz, hm⟩
  exact ⟨zs, cz, by rw [vz]; simp [sumV], by simpa [sumL] using lz, hm.alloc⟩

theorem sum2 (h1 : Rd B1 w v1 x1) (h2 : Rd B2 w v2 x2) (b1 : B1 ≤ w.heap.size) (b2 : B2 ≤ w.heap.size) (l1 : x1.length ≤ 1000000) (l2 : x2.length ≤ 1000000) :
    Calls Tryd.prog 53 #[.slice (some ⟨w.heap.size, 0, none⟩) 2 2] (w.alloc (.cells #[v1, v2] 22)) fun e w' => ∃ zs, can zs ∧ val zs = val x1 + val x2 ∧ zs.length ≤ 2 + (x1.length + x2.length) ∧ Makes w e w' zs := by
  refine (sum_any (many2 h1 h2 b1 b2) (by omega) (by simp [sumL]; omega)).mono ?_
  rintro e w' ⟨zs, cz, vz, lz, hm⟩
  exact ⟨zs, cz, by rw [vz]; simp [sumV], by simpa [sumL] using lz, hm.alloc⟩

theorem prod3 (h1 : Rd B1 w v1 x1) (h2 : Rd B2 w v2 x2) (h3 : Rd B3 w v3 x3) (b1 : B1 ≤ w.heap.size) (b2 : B2 ≤ w.heap.size) (b3 : B3 ≤ w.heap.size) (l1 : x1.length ≤ 1000000) (l2 : x2.length ≤ 1000000) (l3 : x3.length ≤ 1000000) :
    Calls Tryd.prog 47 #[.slice (some ⟨w.heap.size, 0, none⟩) 3 3] (w.alloc (.cells #[v1, v2, v3] 22)) fun e w' => ∃ zs, can zs ∧ val zs = val x1 * val x2 * val x3 ∧ zs.length ≤ 1 + (x1.length + x2.length + x3.length) ∧ Makes w e w' zs := by
  refine (product_any (many3 h1 h2 h3 b1 b2 b3) (by omega) (by simp [sumL]; omega)).mono ?_
  rintro e w' ⟨zs, cz, vz, lz, hm⟩
  exact ⟨zs, cz, by rw [vz]; simp [prodV], by simpa [sumL] using lz, hm.alloc⟩

theorem prod2 (h1 : Rd B1 w v1 x1) (h2 : Rd B2 w v2 x2) (b1 : B1 ≤ w.heap.size) (b2 : B2 ≤ w.heap.size) (l1 : x1.length ≤ 1000000) (l2 : x2.length ≤ 1000000) :
    Calls Tryd.prog 47 #[.slice (some ⟨w.heap.size, 0, none⟩) 2 2] (w.alloc (.cells #[v1, v2] 22)) fun e w' => ∃ zs, can zs ∧ val zs = val x1 * val x2 ∧ zs.length ≤ 1 + (x1.length + x2.length) ∧ Makes w e w' zs := by
  refine (product_any (many2 h1 h2 b1 b2) (by omega) (by simp [sumL]; omega)).mono ?_
  rintro e w' ⟨zs, cz, vz, lz, hm⟩
  exact ⟨zs, cz, by rw [vz]; simp [prodV], by simpa [sumL] using lz, hm.alloc⟩
end
end Go.Proofs.YtibciilhfpgjjadDoor
