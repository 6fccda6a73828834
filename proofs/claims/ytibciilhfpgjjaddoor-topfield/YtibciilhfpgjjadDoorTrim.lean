/- nat.Trim, nat.Of: limbs of the call's own, without noughts at the end. -/
import Derived.Test.YtibciilhfpgjjadDoorCompare
import Derived.Laws.AppendOwnNone
namespace Go.Proofs.YtibciilhfpgjjadDoor
set_option linter.unusedVariables false
set_option linter.unusedSimpArgs false
open Go.RowKit

theorem info_u32 : (Tryd.prog.info? 51).map (fun i => (i.zero, i.size, i.bytes)) = some (some (.int .u32 0), 1, 4) := by kernel_rfl

/-- What a call that makes limbs hands back: a slice of its own, with these limbs; nothing that was there has turned. -/
def Makes (w : World) (e : Ending) (w' : World) (xs : List Int) : Prop := ∃ a c, e = .returned (.slice a xs.length c) ∧ Own w.heap.size w' (.slice a xs.length c) xs ∧ Below w.heap.size w w'

theorem Own.form {base : Nat} {w : World} {v : Value} {xs : List Int} (h : Own base w v xs) : ∃ a c, v = .slice a xs.length c := by
  rcases h.shape with ⟨rfl, rfl⟩ | ⟨g, cap, rfl, _⟩
  · exact ⟨none, 0, rfl⟩
  · exact ⟨_, cap, rfl⟩

theorem Makes.of {w w' : World} {e : Ending} {v : Value} {xs : List Int} (he : e = .returned v) (ho : Own w.heap.size w' v xs) (hb : Below w.heap.size w w') : Makes w e w' xs := by
  obtain ⟨a, c, rfl⟩ := ho.form
  exact ⟨a, c, he, ho, hb⟩

theorem cells_news {w : World} {b off : Nat} {us : List Int} (hc : ∀ j, j < us.length → w.cell? ⟨b, off + j, none⟩ = some (.int .u32 (us.getD j 0))) :
    ∀ j u, (us.map (Value.int .u32))[j]? = some u → w.cell? ((⟨b, off, none⟩ : Addr).add j) = some u := by
  intro j u h
  have hj : j < us.length := by
    have := (List.getElem?_eq_some_iff.1 h).1
    simpa using this
  rw [getD_map_u32 us j hj] at h
  rw [← h, ← hc j hj]
  have e : (⟨b, off, none⟩ : Addr).add j = ⟨b, off + j, none⟩ := by
    cases j with
    | zero => simp [Addr.add]
    | succ j => simp [Addr.add]
  rw [e]

theorem Makes.alloc {w w' : World} {e : Ending} {xs : List Int} {o : Obj} (h : Makes (w.alloc o) e w' xs) : Makes w e w' xs := by
  obtain ⟨a, c, he, ho, hb⟩ := h
  refine ⟨a, c, he, ho.mono (by simp), ?_⟩
  exact ((Below.refl _ w).alloc (Nat.le_refl _) o).trans (hb.mono (by simp))

theorem rd_two (w : World) (x y : Int) (hx : 0 ≤ x ∧ x < 4294967296) (hy : 0 ≤ y ∧ y < 4294967296) :
    Rd (w.heap.size + 1) (w.alloc (.cells #[.int .u32 x, .int .u32 y] 51)) (.slice (some ⟨w.heap.size, 0, none⟩) 2 2) [x, y] := by
  refine ⟨fun z hz => ?_, _, 2, rfl, Nat.le_refl _, by omega, (fun h => by cases h), Or.inr ⟨w.heap.size, 0, rfl, by omega, fun j hj => ?_⟩⟩
  · simp at hz; rcases hz with rfl | rfl
    · exact hx
    · exact hy
  · match j, hj with
    | 0, _ => simp
    | 1, _ => simp

set_option maxHeartbeats 400000 in
theorem trim_some (v1 : Value) (ad : Addr) (c : Nat) (us : List Int) (w : World) (hl : lim us) (hsz : us.length * 4 ≤ 140737488355328)
    (HN : ∀ j u, (us.map (Value.int .u32))[j]? = some u → w.cell? (ad.add j) = some u)
    (h1 : Says1 Tryd.prog 44 v1 w (.slice (some ad) us.length c)) :
    Calls Tryd.prog 45 #[v1] w fun e w' => Makes w e w' us := by
  obtain ⟨i0, hi, hz0, hz1, hz2⟩ := info_parts info_u32
  go_enter Tryd.func45, Tryd.ntmps45
  go_wp2_with fail
  refine (h1).mono ?_
  rintro e w' ⟨rfl, rfl⟩
  go_wp2_with (at_builtin; refine wpList_append_own _ rfl _ _ 22 rfl w.heap.size 51 i0 (.int .u32 0) 1 4 Tryd.underlying22 hi hz0 hz1 hz2 rfl (by decide) _ _ _ rfl (World.ownsRow_nil _ _ _ _) ad us.length c (us.map (Value.int .u32)) rfl (by simp) HN (ints_oneCell _ _) ?c1 ?c2 (Nat.le_refl _) ?_)
  case c1 => unfold maxLen; omega
  case c2 => omega
  intro v' w1 hown hgrow _
  go_wp2
  go_ret
  exact Makes.of rfl ⟨hl, hown⟩ ((Below.refl _ _).grown hgrow (Nat.le_refl _) (fun k h => by cases h))

set_option maxHeartbeats 400000 in
theorem trim_none (v1 : Value) (w : World)
    (h1 : Says1 Tryd.prog 44 v1 w (.slice none 0 0)) :
    Calls Tryd.prog 45 #[v1] w fun e w' => Makes w e w' [] := by
  obtain ⟨i0, hi, hz0, hz1, hz2⟩ := info_parts info_u32
  go_enter Tryd.func45, Tryd.ntmps45
  go_wp2_with fail
  refine (h1).mono ?_
  rintro e w' ⟨rfl, rfl⟩
  go_wp2
  go_ret
  exact Makes.of rfl ⟨lim_nil, World.ownsRow_nil _ _ _ _⟩ (Below.refl _ _)

/-- nat.Trim at whatever slice of limbs. -/
theorem trim_rd {B : Nat} {w : World} {v : Value} {xs : List Int} (h : Rd B w v xs) (hsz : xs.length * 4 ≤ 140737488355328) :
    Calls Tryd.prog 45 #[v] w fun e w' => Makes w e w' (tr xs) := by
  have m := meant_rd h
  have t := h.meant
  have hs := tr_length_le xs
  rw [← tr_length] at m t
  obtain ⟨hl, a, p, e, _, _, hn, r⟩ := t
  rw [e] at m
  generalize tr xs = us at *
  cases a with
  | none =>
    have hp := hn rfl
    subst hp
    have e0 : us.length = 0 := by
      rcases r with r | ⟨_, _, h, _⟩
      · exact r
      · cases h
    have e1 : us = [] := List.eq_nil_of_length_eq_zero e0
    subst e1
    exact trim_none v w m
  | some ad =>
    refine trim_some v ad p us w hl (by omega) ?_ m
    rcases r with r | ⟨b, off, h, _, hc⟩
    · have e1 : us = [] := List.eq_nil_of_length_eq_zero r
      subst e1
      intro j u h; simp at h
    · cases h
      exact cells_news hc

set_option maxHeartbeats 400000 in
/-- nat.Of: a number below 2^64 in limbs. -/
theorem of_any (n : Int) (h0 : 0 ≤ n) (h1 : n < 18446744073709551616) (w : World) :
    Calls Tryd.prog 35 #[.int .u64 n] w fun e w' => Makes w e w' (tr [n % 4294967296, n / 4294967296]) := by
  go_enter Tryd.func35, Tryd.ntmps35
  go_wp2_with fail
  refine (trim_rd (rd_two w (n % 4294967296) (n / 4294967296) (by omega) (by omega)) (by simp)).mono ?_
  intro e w' hm
  obtain ⟨a, c, rfl, ho, hb⟩ := hm.alloc
  go_wp2
  go_ret
  exact ⟨a, c, rfl, ho, hb⟩
end Go.Proofs.YtibciilhfpgjjadDoor
