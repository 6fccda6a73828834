/- array.Enclose of a right array. -/
import Derived.Test.YtnlmjibdifbnbaaGreatK12
namespace Go.Proofs.YtnlmjibdifbnbaaGreat
set_option linter.unusedVariables false
set_option linter.unusedSimpArgs false
open Go.RowKit

section
variable {D : Nat → Prop} {f : Nat} {W : World} {x1 : Option Addr} {n1 y1 : Nat} {x2 : Option Addr} {n2 y2 : Nat} {t : Tr}
end
end Go.Proofs.YtnlmjibdifbnbaaGreat

/- array.Open of a right item; array.Enclose of a simple scalar. -/
namespace Go.Proofs.YtnlmjibdifbnbaaGreat
set_option linter.unusedVariables false
set_option linter.unusedSimpArgs false
open Go.RowKit

section
variable {w : World} {x : IV}
set_option maxRecDepth 100000 in
set_option maxHeartbeats 1600000 in
/-- A scalar of any item. -/
theorem scalarG_any :
    Calls Tryz.prog 53 #[.agg #[.int .u8 x.k, .bool x.b, .slice x.a1 x.n1 x.c1, .slice x.a2 x.n2 x.c2, .int .i32 x.c, .slice x.a3 x.n3 x.c3]] w fun e w' => ∃ k, e = .returned (.agg #[.slice none 0 0, .slice (some ⟨k, 0, none⟩) 1 1]) ∧ w.heap.size ≤ k ∧ BoxA w' k 42 #[.int .u8 x.k, .bool x.b, .slice x.a1 x.n1 x.c1, .slice x.a2 x.n2 x.c2, .int .i32 x.c, .slice x.a3 x.n3 x.c3] ∧ Below w.heap.size w w' := by
  have g1 := (Below.refl w.heap.size w).alloc (Nat.le_refl _) (.cells #[.int .u8 x.k, .bool x.b, .slice x.a1 x.n1 x.c1, .slice x.a2 x.n2 x.c2, .int .i32 x.c, .slice x.a3 x.n3 x.c3] 42)
  have g2 := g1.alloc (by simp) (.cells #[.slice none 0 0, .slice (some ⟨w.heap.size + 1 + 1, 0, none⟩) 1 1] 25)
  have g3 := g2.alloc (by simp; omega) (.cells #[.int .u8 x.k, .bool x.b, .slice x.a1 x.n1 x.c1, .slice x.a2 x.n2 x.c2, .int .i32 x.c, .slice x.a3 x.n3 x.c3] 42)
  have hk := boxA_new ((w.alloc (.cells #[.int .u8 x.k, .bool x.b, .slice x.a1 x.n1 x.c1, .slice x.a2 x.n2 x.c2, .int .i32 x.c, .slice x.a3 x.n3 x.c3] 42)).alloc (.cells #[.slice none 0 0, .slice (some ⟨w.heap.size + 1 + 1, 0, none⟩) 1 1] 25)) #[.int .u8 x.k, .bool x.b, .slice x.a1 x.n1 x.c1, .slice x.a2 x.n2 x.c2, .int .i32 x.c, .slice x.a3 x.n3 x.c3] 42
  rw [World.size_alloc, World.size_alloc] at hk
  have hb := boxA_new (w.alloc (.cells #[.int .u8 x.k, .bool x.b, .slice x.a1 x.n1 x.c1, .slice x.a2 x.n2 x.c2, .int .i32 x.c, .slice x.a3 x.n3 x.c3] 42)) #[.slice none 0 0, .slice (some ⟨w.heap.size + 1 + 1, 0, none⟩) 1 1] 25
  have hb2 := hb.below (below_alloc _ (.cells #[.int .u8 x.k, .bool x.b, .slice x.a1 x.n1 x.c1, .slice x.a2 x.n2 x.c2, .int .i32 x.c, .slice x.a3 x.n3 x.c3] 42)) (by simp)
  rw [World.size_alloc] at hb2
  go_enter Tryz.func53, Tryz.ntmps53
  go_wp2
  have r0 := hb2.cell 0 rfl
  have r1 := hb2.cell 1 rfl
  refine bodyPost_ret (v := .agg #[.slice none 0 0, .slice (some ⟨w.heap.size + 1 + 1, 0, none⟩) 1 1]) (by simp [results, Tryz.results53, go_sem, r0, r1]) rfl ?_
  exact ⟨_, rfl, by omega, hk, g3⟩
end
/-- A scalar whose item is t. -/
theorem scalar_arv {f B k : Nat} {w w' : World} {x : IV} {t : Tr} (h : IsIt f (Fr B w.heap.size) w x t) (kb : Below w.heap.size w w') (hk : B ≤ k) (hB : BoxA w' k 42 #[.int .u8 x.k, .bool x.b, .slice x.a1 x.n1 x.c1, .slice x.a2 x.n2 x.c2, .int .i32 x.c, .slice x.a3 x.n3 x.c3]) : ArV (f + 1) (Fr B w'.heap.size) w' (.slice none 0 0) (.slice (some ⟨k, 0, none⟩) 1 1) (arrT [] [t]) := by
  have hs := kb.size
  refine ⟨⟨(fun x h => by cases h), none, 0, rfl, Nat.le_refl _, by omega, fun _ => rfl, Or.inl rfl⟩, some ⟨k, 0, none⟩, 1, rfl, Nat.le_refl _, by omega, (fun h => by cases h), Or.inr ⟨k, 0, rfl, ⟨hk, hB.lt⟩, fun j hj => ?_⟩⟩
  have hj : j < 1 := hj
  obtain rfl : j = 0 := by omega
  exact itc_of (h.imp (fun q hq => ⟨hq.1, by have := hq.2; omega⟩) (fun q hq => kb.block q hq.2)) hB
section
variable {D : Nat → Prop} {f : Nat} {w : World} {x : IV} {t : Tr}
end
end Go.Proofs.YtnlmjibdifbnbaaGreat
