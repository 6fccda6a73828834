/- The statements' helpers own (limbs with room behind them) and kept. -/
import Derived.Test.YtibciilhfpgjjaaDoorRef4
namespace Go.Proofs.YtibciilhfpgjjaaDoor
set_option linter.unusedVariables false
set_option linter.unusedSimpArgs false
open Go.RowKit

theorem lt_of_cell0 {w : World} {b off : Nat} {v : Value} (h : w.cell? ⟨b, off, none⟩ = some v) : b < w.heap.size := by
  rcases Nat.lt_or_ge b w.heap.size with h' | h'
  · exact h'
  · simp [World.cell?, Array.getElem?_eq_none h'] at h

/-- Limbs of the call's own with 77 and 78 behind them. -/
def Roomy (base : Nat) (w : World) (v : Value) (ys : List Int) : Prop := ∃ g c, v = .slice (some ⟨g, 0, none⟩) ys.length c ∧ Own base w (.slice (some ⟨g, 0, none⟩) (ys ++ [77, 78]).length c) (ys ++ [77, 78])

set_option maxHeartbeats 800000 in
theorem own_any {B : Nat} {w : World} {v : Value} {xs : List Int} (h : Rd B w v xs) (hB : B ≤ w.heap.size) :
    Calls Tryd.prog 9 #[v] w fun e w' => ∃ ys v', Hid (ys = xs.take 40) ∧ ys.length ≤ 40 ∧ e = .returned v' ∧ Roomy w.heap.size w' v' ys ∧ Below w.heap.size w w' := by
  obtain ⟨i0, hi, hz0, hz1, hz2⟩ := info_parts info_u32
  go_enter Tryd.func9, Tryd.ntmps9
  go_wp2_with fail
  have h1 : Rd B (w.alloc (.cells #[] 39)) v xs := h.below ((Below.refl _ _).alloc hB _)
  refine (few_rd h1).mono ?_
  rintro e w' ⟨ys, a, c, hys, hyl, rfl, hr, rfl⟩
  have hO0 : (w.alloc (.cells #[] 39)).ownsRow w.heap.size 39 1 (.slice (some ⟨w.heap.size, 0, none⟩) 0 0) 0 [] := World.ownsRow_lit w #[] 0 (Nat.le_refl _) (by unfold maxLen; omega) rfl
  have hlim := hr.lim
  have hb0 : Below w.heap.size w (w.alloc (.cells #[] 39)) := (Below.refl _ _).alloc (Nat.le_refl _) _
  have step2 : ∀ (g1 c1 : Nat) (w1 : World), Own w.heap.size w1 (.slice (some ⟨g1, 0, none⟩) ys.length c1) ys → Below w.heap.size w w1 →
      ∀ (v2 : Value) (w2 : World), w2.ownsRow w.heap.size 39 1 v2 (ys.length + 2) (ys.map (Value.int .u32) ++ [.int .u32 77, .int .u32 78]) → (w1.alloc (.cells #[.int .u32 77, .int .u32 78] 39)).grownBy w2 (Value.slice (some ⟨g1, 0, none⟩) ys.length c1).ownBlock →
      ∃ g c, v2 = .slice (some ⟨g, 0, none⟩) (ys.length + 2) c ∧ ys.length + 2 ≤ c ∧ c ≤ 9223372036854775807 ∧ Roomy w.heap.size w2 (.slice (some ⟨g, 0, none⟩) ys.length c) ys ∧ Below w.heap.size w w2 := by
    intro g1 c1 w1 hO hb v2 w2 h2 hg
    have hl2 : (ys ++ [77, 78]).length = ys.length + 2 := by simp
    have hO2 : Own w.heap.size w2 v2 (ys ++ [77, 78]) := ⟨lim_append.2 ⟨hlim, fun x hx => by simp at hx; omega⟩, by rw [hl2, List.map_append]; exact h2⟩
    rcases hO2.shape with ⟨_, h⟩ | ⟨g, c, hv, _, _, hc1, hc2⟩
    · have := congrArg List.length h; simp at this
    · rw [hl2] at hv hc1
      refine ⟨g, c, hv, hc1, hc2, ⟨g, c, rfl, by rw [hl2, ← hv]; exact hO2⟩, ?_⟩
      have hs := hb.size
      exact (hb.alloc hs _).grown hg (by simp; omega) (fun k hk => (hO.2.lt k hk).1)
  have HS := step2
  clear step2
  cases a with
  | none =>
    have hy0 : ys = [] := by
      obtain ⟨_, _, _, e, _, _, hn, r⟩ := hr
      rcases r with r | ⟨_, _, h, _⟩
      · exact List.eq_nil_of_length_eq_zero r
      · cases e; cases h
    subst hy0
    have hc0 : c = 0 := by
      obtain ⟨_, _, _, e, _, _, hn, _⟩ := hr
      cases e; exact hn rfl
    subst hc0
    clear hr
    go_wp2_with (first | (at_builtin; refine wpList_append_own_none rfl (.tmp 4) (.tmp 6) 22 rfl w.heap.size 39 i0 1 Tryd.underlying22 hi _ _ _ rfl hO0 rfl ?_) | (at_builtin; refine wpList_append_own _ rfl (.tmp 8) (.tmp 9) 22 rfl w.heap.size 39 i0 (.int .u32 0) 1 4 Tryd.underlying22 hi hz0 hz1 hz2 rfl (by decide) _ 0 [] rfl (hO0.alloc _) ⟨w.heap.size + 1, 0, none⟩ 2 2 [.int .u32 77, .int .u32 78] rfl rfl ?c1 ?c2 ?c3 ?c4 ?c5 ?_))
    case c1 =>
      intro j u hj
      match j, hj with
      | 0, hj => simp at hj; subst hj; simp [Addr.add]
      | 1, hj => simp at hj; subst hj; simp [Addr.add]
    case c2 => intro u hu; simp at hu; rcases hu with rfl | rfl <;> rfl
    case c3 => unfold maxLen; omega
    case c4 => omega
    case c5 => simp; omega
    intro v' w2 hown' hgrow _
    obtain ⟨g, c, hv, hc1, hc2, hR, hB2⟩ := HS w.heap.size 0 _ ⟨lim_nil, hO0⟩ hb0 v' w2 hown' hgrow
    simp only [List.length_nil] at hv hR hc1
    rw [hv]
    clear hown' hgrow hv HS
    go_wp2
    go_ret
    exact ⟨[], _, hys, by simp, rfl, hR, hB2⟩
  | some ad =>
    have hnews : ∀ j u, (ys.map (Value.int .u32))[j]? = some u → (w.alloc (.cells #[] 39)).cell? (ad.add j) = some u := by
      obtain ⟨_, _, _, e, _, _, _, r⟩ := hr
      cases e
      rcases r with r | ⟨b, o, h, _, k⟩
      · have : ys = [] := List.eq_nil_of_length_eq_zero r
        subst this
        intro j u h; simp at h
      · cases h
        exact cells_news k
    go_wp2_with (at_builtin; refine wpList_append_own _ rfl (.tmp 4) (.tmp 6) 22 rfl w.heap.size 39 i0 (.int .u32 0) 1 4 Tryd.underlying22 hi hz0 hz1 hz2 rfl (by decide) _ 0 [] rfl hO0 ad ys.length c (ys.map (Value.int .u32)) rfl (by simp) hnews (ints_oneCell _ _) ?d1 ?d2 ?d3 ?_)
    case d1 => unfold maxLen; omega
    case d2 => omega
    case d3 => simp
    intro v1 w1 hown1 hgrow1 hnil1
    have hO1 : Own w.heap.size w1 v1 ys := ⟨hlim, by simpa using hown1⟩
    have hb1 : Below w.heap.size w w1 := hb0.grown hgrow1 (by simp) (fun k hk => by cases hk; exact Nat.le_refl _)
    rcases hO1.shape with ⟨h, _⟩ | ⟨g1, c1, hv1, _, _, _, _⟩
    · exact (hnil1 h).elim
    subst hv1
    have hs1 := hb1.size
    clear hown1 hgrow1 hnil1 hr hnews
    go_wp2_with (at_builtin; refine wpList_append_own _ rfl (.tmp 8) (.tmp 9) 22 rfl w.heap.size 39 i0 (.int .u32 0) 1 4 Tryd.underlying22 hi hz0 hz1 hz2 rfl (by decide) _ ys.length (ys.map (Value.int .u32)) rfl (hO1.2.alloc _) ⟨w1.heap.size, 0, none⟩ 2 2 [.int .u32 77, .int .u32 78] rfl rfl ?e1 ?e2 ?e3 ?e4 ?e5 ?_)
    case e1 =>
      intro j u hj
      match j, hj with
      | 0, hj => simp at hj; subst hj; simp [Addr.add]
      | 1, hj => simp at hj; subst hj; simp [Addr.add]
    case e2 => intro u hu; simp at hu; rcases hu with rfl | rfl <;> rfl
    case e3 => unfold maxLen; omega
    case e4 => omega
    case e5 => simp; omega
    intro v' w2 hown' hgrow _
    obtain ⟨g, c2, hv, hc1, hc2, hR, hB2⟩ := HS g1 c1 w1 hO1 hb1 v' w2 hown' hgrow
    rw [hv]
    clear hown' hgrow hv HS
    go_wp2
    go_ret
    exact ⟨ys, _, hys, hyl, rfl, hR, hB2⟩

theorem Roomy.rd {base : Nat} {w : World} {v : Value} {ys : List Int} (h : Roomy base w v ys) : Rd w.heap.size w v ys := by
  obtain ⟨g, c, rfl, hO⟩ := h
  have h1 := (hO.take ys.length (by simp)).rd
  have e : (ys ++ [77, 78]).take ys.length = ys := by simp
  rw [e] at h1
  exact h1
theorem Roomy.below {base B : Nat} {w w' : World} {v : Value} {ys : List Int} (h : Roomy base w v ys) (hb : Below B w w') (hB : w.heap.size ≤ B) : Roomy base w' v ys := by
  obtain ⟨g, c, rfl, hO⟩ := h
  exact ⟨g, c, rfl, hO.below hb hB⟩

set_option maxHeartbeats 800000 in
/-- kept, of limbs that have stayed with their room: true. -/
theorem kept_any {base B : Nat} {w : World} {x v : Value} {ys xs : List Int} (hx : Roomy base w x ys) (hv : Rd B w v xs) (hys : Hid (ys = xs.take 40)) (hyl : ys.length ≤ 40) :
    Calls Tryd.prog 25 #[x, v] w fun e w' => e = .returned (.bool true) ∧ Below w.heap.size w w' := by
  have hr := hx.rd
  obtain ⟨g, c, rfl, hO⟩ := hx
  have hl2 : (ys ++ [77, 78]).length = ys.length + 2 := by simp
  have hcap : ys.length + 2 ≤ c ∧ c ≤ 9223372036854775807 := by
    rcases hO.shape with ⟨_, h⟩ | ⟨g2, c2, hv2, _, _, h1, h2⟩
    · have := congrArg List.length h; simp at this
    · cases hv2; rw [hl2] at h1; exact ⟨h1, h2⟩
  have k1 := hO.cellAt rfl ys.length (by omega)
  have k2 := hO.cellAt rfl (ys.length + 1) (by omega)
  have e1 : (ys ++ [77, 78]).getD ys.length 0 = 77 := by simp [List.getD]
  have e2 : (ys ++ [77, 78]).getD (ys.length + 1) 0 = 78 := by simp [List.getD]
  rw [e1] at k1
  rw [e2] at k2
  obtain ⟨hc1, hc2⟩ := hcap
  clear hO e1 e2 hl2
  go_enter Tryd.func25, Tryd.ntmps25
  go_wp2_with fail
  refine (few_rd hv).mono ?_
  rintro e w' ⟨zs, a2, q2, hzs, _, rfl, r2, rfl⟩
  have ezy : zs = ys := by rw [hzs.out, hys.out]
  subst ezy
  go_wp2_with fail
  refine (same_rd hr r2).mono ?_
  rintro e wb ⟨rfl, bb⟩
  have hgl : g < w.heap.size := lt_of_cell0 k1
  have c1 : wb.cell? ⟨g, zs.length, none⟩ = some (.int .u32 77) := (bb.cell hgl).trans k1
  have c2' : wb.cell? ⟨g, zs.length + 1, none⟩ = some (.int .u32 78) := (bb.cell hgl).trans k2
  clear k1 k2 hzs hys
  go_wp2
  go_ret
  exact ⟨rfl, bb⟩
end Go.Proofs.YtibciilhfpgjjaaDoor
