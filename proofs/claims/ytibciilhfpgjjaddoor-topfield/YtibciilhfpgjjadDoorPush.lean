/- (*running).push: a limb more at the end, unless it is 0. -/
import Derived.Test.YtibciilhfpgjjadDoorProduct
import Derived.Test.YtibciilhfpgjjadDoorZeros
namespace Go.Proofs.YtibciilhfpgjjadDoor
set_option linter.unusedVariables false
set_option linter.unusedSimpArgs false
open Go.RowKit

/-- A running number: its variable (block B, of type ty) holds limbs of the call's own (blocks from base on). -/
def St (base : Nat) (w : World) (B ty : Nat) (xs : List Int) : Prop := ∃ a c, Box w B ty (.slice a xs.length c) ∧ Own base w (.slice a xs.length c) xs ∧ base ≤ B ∧ base ≤ w.heap.size

theorem own_box_ne {base B ty : Nat} {w : World} {v u : Value} {xs : List Int} (hb : Box w B ty u) (h : Own base w v xs) (hty : ty ≠ 51) : v.ownBlock ≠ some B := by
  intro e
  obtain ⟨_, _, h | ⟨g, cap, cur, rfl, _, hh, _⟩⟩ := h
  · rw [h.1] at e; cases e
  · have : g = B := Option.some.inj e
    subst this
    unfold Box at hb
    rw [hb] at hh
    exact hty (by simpa using congrArg (fun o : Option Obj => match o with | some (.cells _ t _) => t | _ => 0) hh)

set_option maxHeartbeats 400000 in
theorem push_zero (p : Addr) (w : World) :
    Calls Tryd.prog 89 #[.pointer (some p), .int .u64 0] w fun e w' => e = .returned (.tuple #[]) ∧ w' = w := by
  go_enter Tryd.func89, Tryd.ntmps89
  go_wp2
  go_end0
  exact ⟨rfl, rfl⟩

set_option maxHeartbeats 400000 in
theorem push_some {base B ty : Nat} {w : World} {xs : List Int} (L : Int) (h0 : 0 < L) (h1 : L < 4294967296) (hty : ty ≠ 51) (hs : St base w B ty xs) (hsz : xs.length ≤ 17592186044416) :
    Calls Tryd.prog 89 #[.pointer (some ⟨B, 0, none⟩), .int .u64 L] w fun e w' => e = .returned (.tuple #[]) ∧ St base w' B ty (xs ++ [L]) ∧ Below base w w' := by
  obtain ⟨a, c, hbox, hown, hBb, hbs⟩ := hs
  obtain ⟨i0, hi, hz0, hz1, hz2⟩ := info_parts info_u32
  have hne := own_box_ne hbox hown hty
  have hlt := lt_of_block hbox
  have hc := cell_of_one hbox
  have hf := free_of_one hbox
  go_enter Tryd.func89, Tryd.ntmps89
  go_wp2_with (at_builtin; refine wpList_append_own _ rfl _ _ 22 rfl base 51 i0 (.int .u32 0) 1 4 Tryd.underlying22 hi hz0 hz1 hz2 rfl (by decide) _ _ _ rfl (hown.2.alloc _) ⟨w.heap.size, 0, none⟩ 1 1 [.int .u32 L] rfl rfl ?c1 ?c2 ?c3 ?c4 ?c5 ?_)
  case c1 =>
    intro j u hj
    match j, hj with
    | 0, hj => simp at hj; subst hj; simp [Addr.add]
  case c2 => intro u hu; simp at hu; subst hu; rfl
  case c3 => unfold maxLen; omega
  case c4 => omega
  case c5 => simp; omega
  intro v' w1 hown' hgrow _
  have hO : Own base w1 v' (xs ++ [L]) := by
    refine ⟨lim_append.2 ⟨hown.lim, fun x hx => by simp at hx; omega⟩, ?_⟩
    rw [List.length_append, List.map_append]; exact hown'
  have hbA : Box (w.alloc (.cells #[.int .u32 L] 51)) B ty (.slice a xs.length c) := by
    unfold Box; rw [Below.heap_alloc _ _ _ hlt]; exact hbox
  have hb1 : Box w1 B ty (.slice a xs.length c) := by
    unfold Box; rw [hgrow.block B (by simp; omega) (fun e => hne e.symm)]; exact hbA
  have hl1 : Below base w w1 := ((Below.refl _ w).alloc hbs _).grown hgrow (by simp; omega) (fun k hk => (hown.2.lt k hk).1)
  obtain ⟨a2, c2, hv2⟩ := hO.form
  have hc1 := cell_of_one hb1
  have hf1 := free_of_one hb1
  rw [hv2] at hO
  clear hown' hgrow hbA hc hf hbox hown
  rw [hv2]
  generalize hN : (xs ++ [L]).length = N at *
  have HN : Hid ((xs ++ [L]).length = N) := hN
  clear hN hv2
  go_wp2
  go_end0
  obtain rfl := HN.out
  exact ⟨rfl, ⟨a2, c2, one_setCell hb1, hO.setCell (own_box_ne hb1 hO hty) _, hBb, by have := hl1.size; simp; omega⟩, hl1.setCell hBb _⟩

/-- The limbs behind a push. -/
def pushed (xs : List Int) (L : Int) : List Int := if L = 0 then xs else xs ++ [L]
theorem val_pushed (xs : List Int) (L : Int) : val (pushed xs L) = val xs + L * pw xs.length := by
  unfold pushed
  split
  · rename_i h; rw [h]; simp
  · rw [val_append]; simp only [val]; rw [Int.mul_comm]; simp

theorem push_any {base B ty : Nat} {w : World} {xs : List Int} (L : Int) (h0 : 0 ≤ L) (h1 : L < 4294967296) (hty : ty ≠ 51) (hs : St base w B ty xs) (hsz : xs.length ≤ 17592186044416) :
    Calls Tryd.prog 89 #[.pointer (some ⟨B, 0, none⟩), .int .u64 L] w fun e w' => e = .returned (.tuple #[]) ∧ St base w' B ty (pushed xs L) ∧ Below base w w' := by
  unfold pushed
  by_cases h : L = 0
  · subst h
    rw [if_pos rfl]
    refine (push_zero ⟨B, 0, none⟩ w).mono ?_
    rintro e w' ⟨rfl, rfl⟩
    exact ⟨rfl, hs, Below.refl _ _⟩
  · rw [if_neg h]
    exact push_some L (by omega) h1 hty hs hsz

end Go.Proofs.YtibciilhfpgjjadDoor
