/- nat.Product: the product of numbers that are handed in as many as one likes. -/
import Derived.Test.YtibciilhfpgjjadDoorMul
namespace Go.Proofs.YtibciilhfpgjjadDoor
set_option linter.unusedVariables false
set_option linter.unusedSimpArgs false
open Go.RowKit

/-- The product, and the sum, of what several lists of limbs say; how many limbs they have. -/
def prodV (xss : List (List Int)) : Int := xss.foldl (fun a xs => a * val xs) 1
def sumV (xss : List (List Int)) : Int := xss.foldl (fun a xs => a + val xs) 0
def sumL (xss : List (List Int)) : Nat := xss.foldl (fun a xs => a + xs.length) 0

theorem take_succ_getD' {α : Type} (xs : List α) (k : Nat) (d : α) (h : k < xs.length) : xs.take (k + 1) = xs.take k ++ [xs.getD k d] := by
  rw [List.take_succ_eq_append_getElem h]; simp [List.getD, h]
theorem prodV_succ (xss : List (List Int)) (i : Nat) (h : i < xss.length) : prodV (xss.take (i + 1)) = prodV (xss.take i) * val (xss.getD i []) := by
  rw [take_succ_getD' xss i [] h]; unfold prodV; rw [List.foldl_append]; rfl
theorem sumV_succ (xss : List (List Int)) (i : Nat) (h : i < xss.length) : sumV (xss.take (i + 1)) = sumV (xss.take i) + val (xss.getD i []) := by
  rw [take_succ_getD' xss i [] h]; unfold sumV; rw [List.foldl_append]; rfl
theorem sumL_succ (xss : List (List Int)) (i : Nat) (h : i < xss.length) : sumL (xss.take (i + 1)) = sumL (xss.take i) + (xss.getD i []).length := by
  rw [take_succ_getD' xss i [] h]; unfold sumL; rw [List.foldl_append]; rfl
theorem sumL_mono (xss : List (List Int)) (i : Nat) : sumL (xss.take i) + (xss.getD i []).length ≤ sumL xss ∧ sumL (xss.take i) ≤ sumL xss := by
  have base : ∀ (l : List (List Int)) (a : Nat), a ≤ l.foldl (fun a xs => a + xs.length) a := by
    intro l
    induction l with
    | nil => intro a; exact Nat.le_refl _
    | cons x l ih => intro a; exact Nat.le_trans (Nat.le_add_right _ _) (ih _)
  have mono : ∀ j, sumL (xss.take j) ≤ sumL xss := by
    intro j
    have e : sumL xss = (xss.drop j).foldl (fun a xs => a + xs.length) (sumL (xss.take j)) := by
      unfold sumL; rw [← List.foldl_append, List.take_append_drop]
    rw [e]; exact base _ _
  refine ⟨?_, mono i⟩
  by_cases h : i < xss.length
  · rw [← sumL_succ xss i h]; exact mono _
  · have e : xss.getD i [] = [] := by simp [List.getD, List.getElem?_eq_none (Nat.le_of_not_lt h)]
    rw [e]; simpa using mono i

/-- A list of slices in memory: what each reads as. -/
structure Many (w : World) (Lb k : Nat) (vs : List Value) (xss : List (List Int)) : Prop where
  lv : vs.length = k
  lx : xss.length = k
  lt : Lb < w.heap.size
  cell : ∀ j, j < k → w.cell? ⟨Lb, j, none⟩ = some (vs.getD j (.bool false))
  rd : ∀ j, j < k → Rd w.heap.size w (vs.getD j (.bool false)) (xss.getD j [])

theorem can_one : can [1] := ⟨fun x hx => by simp at hx; omega, Or.inr (by decide)⟩
theorem one_limbs : tr [(1 : Int) % 4294967296, 1 / 4294967296] = [1] := by decide

set_option maxHeartbeats 800000 in
theorem product_any {Lb k : Nat} {vs : List Value} {xss : List (List Int)} {w : World} (hm : Many w Lb k vs xss) (hk : k ≤ 1000000) (hs : sumL xss ≤ 17592186044416) :
    Calls Tryd.prog 47 #[.slice (some ⟨Lb, 0, none⟩) k k] w fun e w' => ∃ zs, can zs ∧ val zs = prodV xss ∧ zs.length ≤ 1 + sumL xss ∧ Makes w e w' zs := by
  go_enter Tryd.func47, Tryd.ntmps47
  go_wp2_with fail
  refine (beginAt_any 1 (by omega) (by omega) _).mono ?_
  intro e w1 hm1
  rw [one_limbs] at hm1
  obtain ⟨a, c, rfl, ho, hb⟩ := hm1
  have hz := hb.size
  go_wp2
  go_loopw [10] (fun s wr => ∃ (i : Nat) (zs : List Int) (a : Option Addr) (c : Nat), i ≤ k ∧ s = .int .i64 i ∧ can zs ∧ Hid (val zs = prodV (xss.take i)) ∧ Hid (zs.length ≤ 1 + sumL (xss.take i)) ∧ Box wr w1.heap.size 100 (.slice a zs.length c) ∧ Own w.heap.size wr (.slice a zs.length c) zs ∧ Below w.heap.size w wr)
    (fun s _ => k - (intOf s).toNat)
  case atStart => exact ⟨0, [1], a, c, Nat.zero_le _, rfl, can_one, by unfold Hid; simp [val, prodV], by unfold Hid; simp, heap_alloc_new _ _, ho.alloc _, hb.alloc (by omega) _⟩
  case round =>
    obtain ⟨i, zs, a2, c2, hik, rfl, hcan, hval, hlen, hbox, hown, hbl⟩ := hrel
    by_cases hlt : i < k
    · have hcell : wr.cell? ⟨Lb, i, none⟩ = some (vs.getD i (.bool false)) := (hbl.cell hm.lt).trans (hm.cell i hlt)
      have hrd : Rd w.heap.size wr (vs.getD i (.bool false)) (xss.getD i []) := (hm.rd i hlt).below hbl
      have hsz := hbl.size
      have hml := sumL_mono xss i
      have HML : Hid (sumL (xss.take i) + (xss.getD i []).length ≤ sumL xss ∧ sumL (xss.take i) ≤ sumL xss) := hml
      clear hml
      generalize hV : vs.getD i (.bool false) = V at *
      clear hV
      go_wp2_with fail
      refine (meant_rd hrd).mono ?_
      rintro e w2 ⟨rfl, rfl⟩
      go_wp2_with fail
      refine (times_any hbox hown hrd.meant hsz (by have := HML.out; have := hlen.out; have := tr_length_le (xss.getD i []); omega)).mono ?_
      rintro e w2 ⟨us, hcu, hvu, hlu, rfl, a3, c3, hbox3, hown3, hg3⟩
      go_wp2
      go_roundw
      case rel => exact ⟨i + 1, us, a3, c3, by omega, by go_num, hcu, (by unfold Hid; rw [hvu, hval.out, val_tr, prodV_succ xss i (by rw [hm.lx]; exact hlt)]), (by unfold Hid; rw [sumL_succ xss i (by rw [hm.lx]; exact hlt)]; have := hlen.out; have := tr_length_le (xss.getD i []); omega), hbox3, hown3.mono hsz, hbl.grown hg3 hsz (fun q hq => by cases hq; exact hz)⟩
      case measure => simp [intOf]; omega
    · obtain rfl : i = k := by omega
      have hc2 := cell_of_one hbox
      have hsz := hbl.size
      go_wp2
      go_ret
      refine ⟨zs, hcan, ?_, ?_, a2, c2, rfl, hown, hbl⟩
      · rw [hval.out, ← hm.lx, List.take_length]
      · have := hlen.out; rw [← hm.lx, List.take_length] at this; exact this
end Go.Proofs.YtibciilhfpgjjadDoor
