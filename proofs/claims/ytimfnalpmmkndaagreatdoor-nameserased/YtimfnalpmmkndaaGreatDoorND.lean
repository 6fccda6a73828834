/- names.copyFn: a function with lists of its own. -/
import Derived.Test.YtimfnalpmmkndaaGreatDoorNB
import Derived.Test.YtimfnalpmmkndaaGreatDoorNC
import Derived.Test.YtimfnalpmmkndaaGreatDoorDB
set_option maxRecDepth 100000
set_option maxHeartbeats 16000000
set_option linter.unusedVariables false
set_option linter.unusedSimpArgs false
namespace Go.Proofs.YtimfnalpmmkndaaGreatDoor
open Go.RowKit
attribute [local go_sem] Oper.semAt_some
section
variable {D : Nat → Prop} {w : World} {s1 s2 s3 s4 : ByteArray} {b1 b2 b3 b4 : Option Addr} {z1 z2 z3 z4 : Nat} {l1 l2 l4 : List ByteArray} {l3 : List Int} {br : Bool}
def Lists4 (D : Nat → Prop) (w : World) (b1 b2 b3 b4 : Option Addr) (z1 z2 z3 z4 : Nat) (l1 l2 : List ByteArray) (l3 : List Int) (l4 : List ByteArray) : Prop := RdT D w (.slice b1 l1.length z1) l1 ∧ RdT D w (.slice b2 l2.length z2) l2 ∧ RdN D w (.slice b3 l3.length z3) l3 ∧ RdT D w (.slice b4 l4.length z4) l4
theorem copyFn_any (hL : Lists4 D w b1 b2 b3 b4 z1 z2 z3 z4 l1 l2 l3 l4) (hD : ∀ g, D g → g < w.heap.size) (g1 : l1.length ≤ 8796093022208) (g2 : l2.length ≤ 8796093022208) (g3 : l3.length ≤ 17592186044416) (g4 : l4.length ≤ 8796093022208) :
    Calls Tryz.prog 114 #[.agg #[.string s1, .string s2, .string s3, .string s4, .slice b1 l1.length z1, .slice b2 l2.length z2, .slice b3 l3.length z3, .slice b4 l4.length z4, .bool br]] w fun e w' => ∃ c1 d1 c2 d2 c3 d3 c4 d4, e = .returned (.agg #[.string s1, .string s2, .string s3, .string s4, .slice c1 l1.length d1, .slice c2 l2.length d2, .slice c3 l3.length d3, .slice c4 l4.length d4, .bool br]) ∧ Lists4 (Fr w.heap.size w'.heap.size) w' c1 c2 c3 c4 d1 d2 d3 d4 l1 l2 l3 l4 ∧ Below w.heap.size w w' := by
 have e1 := below_alloc w (.cells #[.string s1, .string s2, .string s3, .string s4, .slice b1 l1.length z1, .slice b2 l2.length z2, .slice b3 l3.length z3, .slice b4 l4.length z4, .bool br] 36)
 have B1 := boxA_new w #[.string s1, .string s2, .string s3, .string s4, .slice b1 l1.length z1, .slice b2 l2.length z2, .slice b3 l3.length z3, .slice b4 l4.length z4, .bool br] 36
 have e2 := below_alloc (w.alloc (.cells #[.string s1, .string s2, .string s3, .string s4, .slice b1 l1.length z1, .slice b2 l2.length z2, .slice b3 l3.length z3, .slice b4 l4.length z4, .bool br] 36)) (.cells fn0 36)
 have B2 := boxA_new (w.alloc (.cells #[.string s1, .string s2, .string s3, .string s4, .slice b1 l1.length z1, .slice b2 l2.length z2, .slice b3 l3.length z3, .slice b4 l4.length z4, .bool br] 36)) fn0 36
 have B1' := B1.below e2 (by simp)
 have kw := e1.trans (e2.mono e1.size)
 have hs0 : ((w.alloc (.cells #[.string s1, .string s2, .string s3, .string s4, .slice b1 l1.length z1, .slice b2 l2.length z2, .slice b3 l3.length z3, .slice b4 l4.length z4, .bool br] 36)).alloc (.cells fn0 36)).heap.size = w.heap.size + 2 := by simp
 rw [World.size_alloc] at B2
 go_enter Tryz.func114, Tryz.ntmps114
 go_upto_region 1 with fail
 obtain ⟨v0, hv0⟩ : ∃ v0, (w.alloc (.cells #[.string s1, .string s2, .string s3, .string s4, .slice b1 l1.length z1, .slice b2 l2.length z2, .slice b3 l3.length z3, .slice b4 l4.length z4, .bool br] 36)).alloc (.cells fn0 36) = v0 := ⟨_, rfl⟩
 rw [hv0] at B1' B2 kw hs0 ⊢
 clear hv0 e1 e2 B1
 refine wp_region_noPanic ?_
 obtain ⟨v, hv⟩ : ∃ v, v0.drew = v := ⟨_, rfl⟩
 have HB : Hid (BoxA v w.heap.size 36 #[.string s1, .string s2, .string s3, .string s4, .slice b1 l1.length z1, .slice b2 l2.length z2, .slice b3 l3.length z3, .slice b4 l4.length z4, .bool br]) := by subst hv; exact B1'
 have HB2 : Hid (BoxA v (w.heap.size + 1) 36 fn0) := by subst hv; exact B2
 have HS : Hid (v.heap.size = w.heap.size + 2) := by subst hv; exact hs0
 have HK : Hid (Below w.heap.size w v) := by subst hv; exact kw.drew
 have k0 : Below (w.heap.size + 2) v v := Below.refl _ _
 have HH : Hid (∀ V, Below (w.heap.size + 2) v V → RdT D V (.slice b1 l1.length z1) l1 ∧ RdT D V (.slice b2 l2.length z2) l2 ∧ RdN D V (.slice b3 l3.length z3) l3 ∧ RdT D V (.slice b4 l4.length z4) l4 ∧ ∀ g, D g → g < V.heap.size) := by
  intro V hV
  have ag : Agree D w V := fun g hg => (hV.block g (by have := hD g hg; omega)).trans (HK.out.block g (hD g hg))
  exact ⟨hL.1.imp (fun _ h => h) ag, hL.2.1.imp (fun _ h => h) ag, hL.2.2.1.imp (fun _ h => h) ag, hL.2.2.2.imp (fun _ h => h) ag, fun g hg => by have := hD g hg; have := hV.size; have := HS.out; omega⟩
 have HC : Hid (∀ V, Below (w.heap.size + 2) v V → (fun V => V.cell? ⟨w.heap.size, 4, none⟩ = some (.slice b1 l1.length z1) ∧ V.cell? ⟨w.heap.size, 5, none⟩ = some (.slice b2 l2.length z2) ∧ V.cell? ⟨w.heap.size, 6, none⟩ = some (.slice b3 l3.length z3) ∧ V.cell? ⟨w.heap.size, 7, none⟩ = some (.slice b4 l4.length z4)) V) := by
  intro V hV
  have hB := HB.out.below hV (by omega)
  exact ⟨hB.cell 4 rfl, hB.cell 5 rfl, hB.cell 6 rfl, hB.cell 7 rfl⟩
 clear B1' B2 kw hs0 hL hD
 refine wp_region_M (m := 13) (S := (fun V => V.cell? ⟨w.heap.size, 4, none⟩ = some (.slice b1 l1.length z1) ∧ V.cell? ⟨w.heap.size, 5, none⟩ = some (.slice b2 l2.length z2) ∧ V.cell? ⟨w.heap.size, 6, none⟩ = some (.slice b3 l3.length z3) ∧ V.cell? ⟨w.heap.size, 7, none⟩ = some (.slice b4 l4.length z4))) (by kernel_rfl) (by rw [hv]; exact HC.out v k0) (fun hS => ?_)
 rw [hv] at hS ⊢
 clear hv
 refine anyM_take (i := 0) (v := .pointer (some ⟨w.heap.size, 4, none⟩)) rfl (by kernel_rfl) (by kernel_rfl) (by kernel_rfl) (by kernel_rfl) (fun _ _ _ h => h) (Or.inl ⟨by rfl, (by intro w hSw; (try dsimp only at hSw); go_simp)⟩) (by assumption) ?_
 simp only [Act.put, List.setIfInBounds_toArray, List.set_cons_zero, List.set_cons_succ]
 refine anyM_take (i := 1) (v := .slice b1 l1.length z1) rfl (by kernel_rfl) (by kernel_rfl) (by kernel_rfl) (by kernel_rfl) (fun _ _ _ h => h) (Or.inl ⟨by rfl, (by intro w hSw; (try dsimp only at hSw); go_simp)⟩) (by assumption) ?_
 simp only [Act.put, List.setIfInBounds_toArray, List.set_cons_zero, List.set_cons_succ]
 refine anyM_take (i := 3) (v := .pointer (some ⟨w.heap.size, 5, none⟩)) rfl (by kernel_rfl) (by kernel_rfl) (by kernel_rfl) (by kernel_rfl) (fun _ _ _ h => h) (Or.inl ⟨by rfl, (by intro w hSw; (try dsimp only at hSw); go_simp)⟩) (by assumption) ?_
 simp only [Act.put, List.setIfInBounds_toArray, List.set_cons_zero, List.set_cons_succ]
 refine anyM_take (i := 4) (v := .slice b2 l2.length z2) rfl (by kernel_rfl) (by kernel_rfl) (by kernel_rfl) (by kernel_rfl) (fun _ _ _ h => h) (Or.inl ⟨by rfl, (by intro w hSw; (try dsimp only at hSw); go_simp)⟩) (by assumption) ?_
 simp only [Act.put, List.setIfInBounds_toArray, List.set_cons_zero, List.set_cons_succ]
 refine anyM_take (i := 6) (v := .pointer (some ⟨w.heap.size, 6, none⟩)) rfl (by kernel_rfl) (by kernel_rfl) (by kernel_rfl) (by kernel_rfl) (fun _ _ _ h => h) (Or.inl ⟨by rfl, (by intro w hSw; (try dsimp only at hSw); go_simp)⟩) (by assumption) ?_
 simp only [Act.put, List.setIfInBounds_toArray, List.set_cons_zero, List.set_cons_succ]
 refine anyM_take (i := 7) (v := .slice b3 l3.length z3) rfl (by kernel_rfl) (by kernel_rfl) (by kernel_rfl) (by kernel_rfl) (fun _ _ _ h => h) (Or.inl ⟨by rfl, (by intro w hSw; (try dsimp only at hSw); go_simp)⟩) (by assumption) ?_
 simp only [Act.put, List.setIfInBounds_toArray, List.set_cons_zero, List.set_cons_succ]
 refine anyM_take (i := 9) (v := .pointer (some ⟨w.heap.size, 7, none⟩)) rfl (by kernel_rfl) (by kernel_rfl) (by kernel_rfl) (by kernel_rfl) (fun _ _ _ h => h) (Or.inl ⟨by rfl, (by intro w hSw; (try dsimp only at hSw); go_simp)⟩) (by assumption) ?_
 simp only [Act.put, List.setIfInBounds_toArray, List.set_cons_zero, List.set_cons_succ]
 refine anyM_take (i := 10) (v := .slice b4 l4.length z4) rfl (by kernel_rfl) (by kernel_rfl) (by kernel_rfl) (by kernel_rfl) (fun _ _ _ h => h) (Or.inl ⟨by rfl, (by intro w hSw; (try dsimp only at hSw); go_simp)⟩) (by assumption) ?_
 simp only [Act.put, List.setIfInBounds_toArray, List.set_cons_zero, List.set_cons_succ]
 refine anyM_one (i := 2) rfl (by kernel_rfl) (by kernel_rfl) (fun K hK => ?_)
 go_simp
 refine (cloneT_any (D := D) (HH.out v k0).1 (HH.out v k0).2.2.2.2 g1).mono ?_
 rintro e w1 ⟨c1, d1, rfl, o1, q1⟩
 have k1 : Below (w.heap.size + 2) v w1 := k0.trans (q1.mono (Nat.le_of_eq HS.out.symm))
 have j1 := HC.out w1 k1
 have O1 : Hid (RdT (Fr v.heap.size w1.heap.size) w1 (.slice c1 l1.length d1) l1) := o1
 clear o1
 go_simp
 refine hK.out _ _ (j1) (fun _ => ?_)
 clear hK K
 refine anyM_take (i := 12) (v := .pointer (some ⟨w.heap.size, 4, none⟩)) rfl (by kernel_rfl) (by kernel_rfl) (by kernel_rfl) (by kernel_rfl) (fun _ _ _ h => h) (Or.inl ⟨by rfl, (by intro w hSw; (try dsimp only at hSw); go_simp)⟩) (by assumption) ?_
 simp only [Act.put, List.setIfInBounds_toArray, List.set_cons_zero, List.set_cons_succ]
 refine anyM_one (i := 5) rfl (by kernel_rfl) (by kernel_rfl) (fun K hK => ?_)
 go_simp
 refine (cloneT_any (D := D) (HH.out w1 k1).2.1 (HH.out w1 k1).2.2.2.2 g2).mono ?_
 rintro e w2 ⟨c2, d2, rfl, o2, q2⟩
 have k2 : Below (w.heap.size + 2) v w2 := k1.trans (q2.mono (by have := HS.out; have := k1.size; omega))
 have j2 := HC.out w2 k2
 have O2 : Hid (RdT (Fr w1.heap.size w2.heap.size) w2 (.slice c2 l2.length d2) l2) := o2
 clear o2
 go_simp
 refine hK.out _ _ (j2) (fun _ => ?_)
 clear hK K
 refine anyM_one (i := 8) rfl (by kernel_rfl) (by kernel_rfl) (fun K hK => ?_)
 go_simp
 refine (cloneN_any (D := D) (HH.out w2 k2).2.2.1 (HH.out w2 k2).2.2.2.2 g3).mono ?_
 rintro e w3 ⟨c3, d3, rfl, o3, q3⟩
 have k3 : Below (w.heap.size + 2) v w3 := k2.trans (q3.mono (by have := HS.out; have := k2.size; omega))
 have j3 := HC.out w3 k3
 have O3 : Hid (RdN (Fr w2.heap.size w3.heap.size) w3 (.slice c3 l3.length d3) l3) := o3
 clear o3
 go_simp
 refine hK.out _ _ (j3) (fun _ => ?_)
 clear hK K
 refine anyM_one (i := 11) rfl (by kernel_rfl) (by kernel_rfl) (fun K hK => ?_)
 go_simp
 refine (cloneT_any (D := D) (HH.out w3 k3).2.2.2.1 (HH.out w3 k3).2.2.2.2 g4).mono ?_
 rintro e w4 ⟨c4, d4, rfl, o4, q4⟩
 have k4 : Below (w.heap.size + 2) v w4 := k3.trans (q4.mono (by have := HS.out; have := k3.size; omega))
 have j4 := HC.out w4 k4
 have O4 : Hid (RdT (Fr w3.heap.size w4.heap.size) w4 (.slice c4 l4.length d4) l4) := o4
 clear o4
 have BF4 := HB.out.below k4 (by omega)
 have BR4 := HB2.out.below k4 (by omega)
 obtain ⟨x0, x1, x2, x3, x4, x5, x6, x7, x8⟩ := cells9 BR4
 obtain ⟨h0, h1, h2, h3, h4, h5, h6, h7, h8⟩ := frozen9 BR4
 obtain ⟨y0, y1, y2, y3, y4, y5, y6, y7, y8⟩ := cells9 BF4
 obtain ⟨f0, f1, f2, f3, f4, f5, f6, f7, f8⟩ := frozen9 BF4
 go_simp
 refine hK.out _ _ (j4) (fun _ => ?_)
 clear hK K
 refine anyM_last rfl (by kernel_rfl) (fun K hK => ?_)
 go_simp
 refine hK.out _ _ (trivial) (fun _ => ?_)
 clear hK K
 refine wpAnyH_take (i := 14) (v := .pointer (some ⟨w.heap.size, 5, none⟩)) rfl (by kernel_rfl) (by kernel_rfl) (by kernel_rfl) (fun _ _ _ h => h) (Or.inl ⟨by rfl, (by intro w hSw; (try dsimp only at hSw); go_simp)⟩) (by trivial) ?_
 simp only [Act.put, List.setIfInBounds_toArray, List.set_cons_zero, List.set_cons_succ]
 refine wpAnyH_ready (rs := [15]) (by kernel_rfl) (by simp) ?_
 refine AllReadyH.cons rfl (fun K hK => ?_) AllReadyH.nil
 go_simp
 refine hK.out _ _ (trivial) (fun _ => ?_)
 clear hK K
 refine wpAnyH_take (i := 16) (v := .pointer (some ⟨w.heap.size, 6, none⟩)) rfl (by kernel_rfl) (by kernel_rfl) (by kernel_rfl) (fun _ _ _ h => h) (Or.inl ⟨by rfl, (by intro w hSw; (try dsimp only at hSw); go_simp)⟩) (by trivial) ?_
 simp only [Act.put, List.setIfInBounds_toArray, List.set_cons_zero, List.set_cons_succ]
 refine wpAnyH_ready (rs := [17]) (by kernel_rfl) (by simp) ?_
 refine AllReadyH.cons rfl (fun K hK => ?_) AllReadyH.nil
 go_simp
 refine hK.out _ _ (trivial) (fun _ => ?_)
 clear hK K
 refine wpAnyH_take (i := 18) (v := .pointer (some ⟨w.heap.size, 7, none⟩)) rfl (by kernel_rfl) (by kernel_rfl) (by kernel_rfl) (fun _ _ _ h => h) (Or.inl ⟨by rfl, (by intro w hSw; (try dsimp only at hSw); go_simp)⟩) (by trivial) ?_
 simp only [Act.put, List.setIfInBounds_toArray, List.set_cons_zero, List.set_cons_succ]
 refine wpAnyH_ready (rs := [19]) (by kernel_rfl) (by simp) ?_
 refine AllReadyH.cons rfl (fun K hK => ?_) AllReadyH.nil
 go_simp
 refine hK.out _ _ (trivial) (fun _ => ?_)
 clear hK K
 refine wpAnyH_done (by kernel_rfl) ?_ _
 obtain ⟨w5, hw5⟩ : ∃ w5, ((((w4.setCell ⟨w.heap.size, 4, none⟩ (.slice c1 l1.length d1)).setCell ⟨w.heap.size, 5, none⟩ (.slice c2 l2.length d2)).setCell ⟨w.heap.size, 6, none⟩ (.slice c3 l3.length d3)).setCell ⟨w.heap.size, 7, none⟩ (.slice c4 l4.length d4)) = w5 := ⟨_, rfl⟩
 have B5 : BoxA w5 w.heap.size 36 #[.string s1, .string s2, .string s3, .string s4, .slice c1 l1.length d1, .slice c2 l2.length d2, .slice c3 l3.length d3, .slice c4 l4.length d4, .bool br] := by subst hw5; exact boxA_put (boxA_put (boxA_put (boxA_put BF4 4 _) 5 _) 6 _) 7 _
 have BR5 : BoxA w5 (w.heap.size + 1) 36 fn0 := by
  subst hw5
  unfold BoxA at BR4 ⊢
  simp [World.setCell, Array.getElem?_modify, BR4]
 have A5 : Hid (w5.heap.size = w4.heap.size ∧ ∀ g, w.heap.size < g → w5.heap[g]? = w4.heap[g]?) := by
  subst hw5
  exact ⟨by simp [World.setCell], fun g hg => by simp [World.setCell, Array.getElem?_modify, (show ¬ w.heap.size = g by omega)]⟩
 have K5 : Below w.heap.size w w5 := by
  subst hw5
  exact ((((HK.out.trans (k4.mono (by omega))).setCell (p := ⟨w.heap.size, 4, none⟩) (Nat.le_refl _) _).setCell (p := ⟨w.heap.size, 5, none⟩) (Nat.le_refl _) _).setCell (p := ⟨w.heap.size, 6, none⟩) (Nat.le_refl _) _).setCell (p := ⟨w.heap.size, 7, none⟩) (Nat.le_refl _) _
 rw [hw5]
 clear hw5 BF4 BR4 y0 y1 y2 y3 y4 y5 y6 y7 y8 f0 f1 f2 f3 f4 f5 f6 f7 f8 x0 x1 x2 x3 x4 x5 x6 x7 x8 h0 h1 h2 h3 h4 h5 h6 h7 h8
 obtain ⟨y0, y1, y2, y3, y4, y5, y6, y7, y8⟩ := cells9 B5
 obtain ⟨x0, x1, x2, x3, x4, x5, x6, x7, x8⟩ := cells9 BR5
 obtain ⟨h0, h1, h2, h3, h4, h5, h6, h7, h8⟩ := frozen9 BR5
 have Z := fn_set9 BR5 (.string s1) (.string s2) (.string s3) (.string s4) (.slice c1 l1.length d1) (.slice c2 l2.length d2) (.slice c3 l3.length d3) (.slice c4 l4.length d4) (.bool br)
 have KZ := below_set9 (R := w.heap.size + 1) K5 (by omega) (.string s1) (.string s2) (.string s3) (.string s4) (.slice c1 l1.length d1) (.slice c2 l2.length d2) (.slice c3 l3.length d3) (.slice c4 l4.length d4) (.bool br)
 have AZ : Hid (((((((((((w5.setCell ⟨w.heap.size + 1, 0, none⟩ (.string s1)).setCell ⟨w.heap.size + 1, 1, none⟩ (.string s2)).setCell ⟨w.heap.size + 1, 2, none⟩ (.string s3)).setCell ⟨w.heap.size + 1, 3, none⟩ (.string s4)).setCell ⟨w.heap.size + 1, 4, none⟩ (.slice c1 l1.length d1)).setCell ⟨w.heap.size + 1, 5, none⟩ (.slice c2 l2.length d2)).setCell ⟨w.heap.size + 1, 6, none⟩ (.slice c3 l3.length d3)).setCell ⟨w.heap.size + 1, 7, none⟩ (.slice c4 l4.length d4)).setCell ⟨w.heap.size + 1, 8, none⟩ (.bool br))).heap.size = w5.heap.size ∧ ∀ g, w.heap.size + 1 < g → ((((((((((w5.setCell ⟨w.heap.size + 1, 0, none⟩ (.string s1)).setCell ⟨w.heap.size + 1, 1, none⟩ (.string s2)).setCell ⟨w.heap.size + 1, 2, none⟩ (.string s3)).setCell ⟨w.heap.size + 1, 3, none⟩ (.string s4)).setCell ⟨w.heap.size + 1, 4, none⟩ (.slice c1 l1.length d1)).setCell ⟨w.heap.size + 1, 5, none⟩ (.slice c2 l2.length d2)).setCell ⟨w.heap.size + 1, 6, none⟩ (.slice c3 l3.length d3)).setCell ⟨w.heap.size + 1, 7, none⟩ (.slice c4 l4.length d4)).setCell ⟨w.heap.size + 1, 8, none⟩ (.bool br))).heap[g]? = w5.heap[g]?) := ⟨by simp [World.setCell], fun g hg => other_set9 (by omega) _ _ _ _ _ _ _ _ _⟩
 generalize hw6 : (((((((((w5.setCell ⟨w.heap.size + 1, 0, none⟩ (.string s1)).setCell ⟨w.heap.size + 1, 1, none⟩ (.string s2)).setCell ⟨w.heap.size + 1, 2, none⟩ (.string s3)).setCell ⟨w.heap.size + 1, 3, none⟩ (.string s4)).setCell ⟨w.heap.size + 1, 4, none⟩ (.slice c1 l1.length d1)).setCell ⟨w.heap.size + 1, 5, none⟩ (.slice c2 l2.length d2)).setCell ⟨w.heap.size + 1, 6, none⟩ (.slice c3 l3.length d3)).setCell ⟨w.heap.size + 1, 7, none⟩ (.slice c4 l4.length d4)).setCell ⟨w.heap.size + 1, 8, none⟩ (.bool br)) = w6 at Z KZ AZ
 have HKZ : Hid (Below w.heap.size w w6) := KZ
 have HQ : Hid (Below v.heap.size v w1 ∧ Below w1.heap.size w1 w2 ∧ Below w2.heap.size w2 w3 ∧ Below w3.heap.size w3 w4) := ⟨q1, q2, q3, q4⟩
 have HO : Hid (Lists4 (Fr w.heap.size w6.heap.size) w6 c1 c2 c3 c4 d1 d2 d3 d4 l1 l2 l3 l4) := by
  have s0 := HS.out
  have t1 := q1.size; have t2 := q2.size; have t3 := q3.size; have t4 := q4.size
  obtain ⟨a1, a2⟩ := AZ.out
  obtain ⟨a3, a4⟩ := A5.out
  have ag4 : ∀ g, w.heap.size + 2 ≤ g → w6.heap[g]? = w4.heap[g]? := fun g hg => (a2 g (by omega)).trans (a4 g (by omega))
  refine ⟨O1.out.imp (fun g hg => ⟨by have := hg.1; omega, by have := hg.2; omega⟩) (fun g hg => ?_), O2.out.imp (fun g hg => ⟨by have := hg.1; omega, by have := hg.2; omega⟩) (fun g hg => ?_), O3.out.imp (fun g hg => ⟨by have := hg.1; omega, by have := hg.2; omega⟩) (fun g hg => ?_), O4.out.imp (fun g hg => ⟨by have := hg.1; omega, by have := hg.2; omega⟩) (fun g hg => ?_)⟩
  · have := hg.1; have := hg.2
    rw [ag4 g (by omega), q4.block g (by omega), q3.block g (by omega), q2.block g (by omega)]
  · have := hg.1; have := hg.2
    rw [ag4 g (by omega), q4.block g (by omega), q3.block g (by omega)]
  · have := hg.1; have := hg.2
    rw [ag4 g (by omega), q4.block g (by omega)]
  · have := hg.1; have := hg.2
    rw [ag4 g (by omega)]
 clear KZ AZ A5 K5 O1 O2 O3 O4 q1 q2 q3 q4 k0 k1 k2 k3 k4 j1 j2 j3 j4 HH HC HB HB2 HS HK HQ hS
 dsimp only [NoPanic]
 go_wp2
 obtain ⟨r0, r1, r2, r3, r4, r5, r6, r7, r8⟩ := cells9 Z
 refine bodyPost_ret (v := .agg #[.string s1, .string s2, .string s3, .string s4, .slice c1 l1.length d1, .slice c2 l2.length d2, .slice c3 l3.length d3, .slice c4 l4.length d4, .bool br]) ?_ rfl ⟨c1, d1, c2, d2, c3, d3, c4, d4, rfl, HO.out, HKZ.out⟩
 simp [results, Tryz.results114, go_sem, r0, r1, r2, r3, r4, r5, r6, r7, r8]
end
end Go.Proofs.YtimfnalpmmkndaaGreatDoor
