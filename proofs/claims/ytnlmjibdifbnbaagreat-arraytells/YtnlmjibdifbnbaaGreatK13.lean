/- ArrayRight's walk, but for live. -/
import Derived.Test.YtnlmjibdifbnbaaGreatK7
import Derived.Test.YtnlmjibdifbnbaaGreatKA
import Derived.Test.YtnlmjibdifbnbaaGreatK12
namespace Go.Proofs.YtnlmjibdifbnbaaGreat
set_option linter.unusedVariables false
set_option linter.unusedSimpArgs false
open Go.RowKit

theorem right_simp {L : Nat} {t : Tr} (h : (measF (L + 1) t).isSome = true) : simpB t = simpR t := by
  refine simp_same (fun ho => ?_)
  rw [measF] at h
  split at h
  · obtain ⟨h1, h2, h3, h4⟩ := ho
    obtain ⟨x, hx⟩ := List.length_eq_one_iff.1 h1
    rw [hx] at h h2 h3 h4
    simp only [List.getD_cons_zero] at h2 h3 h4
    have e : measI (measF L) x = none := by unfold measI; rw [if_neg h2, if_neg h3, if_neg h4]
    rw [measL, e] at h
    simp at h
  · simp at h
/-- What law03.live says. -/
def LiveOK : Prop := ∀ W : World, Calls Tryz.prog 10 #[] W fun e w' => e = .returned (.bool true) ∧ Below W.heap.size W w'
section
variable {D : Nat → Prop} {F : Nat} {w : World} {x1 : Option Addr} {n1 y1 : Nat} {x2 : Option Addr} {n2 y2 : Nat} {t : Tr}
end
end Go.Proofs.YtnlmjibdifbnbaaGreat

/- law03.live. -/
namespace Go.Proofs.YtnlmjibdifbnbaaGreat
set_option linter.unusedVariables false
set_option linter.unusedSimpArgs false
open Go.RowKit

theorem rdN_two {W : World} {D : Nat → Prop} {g : Nat} {l : List Int} {cs : Array Value} (h : BoxA W g 3 cs) (hl : cs.toList = l.map (Value.int .i64)) (hD : D g) (hin : ∀ x ∈ l, -9223372036854775808 ≤ x ∧ x ≤ 9223372036854775807) (hs : l.length ≤ 1000) : RdN D W (.slice (some ⟨g, 0, none⟩) l.length l.length) l := by
  refine ⟨hin, _, l.length, rfl, Nat.le_refl _, by omega, (fun h => by cases h), Or.inr ⟨g, 0, rfl, hD, fun j hj => ?_⟩⟩
  rw [Nat.zero_add]
  refine h.cell j ?_
  rw [← Array.getElem?_toList, hl, getD_map_i64 l j hj]
theorem live_items : (vecT (wholeT 0) ([1, 2, 3].map wholeT)) = arrT [3] [wholeT 1, wholeT 2, wholeT 3] := rfl
set_option maxRecDepth 100000 in
set_option maxHeartbeats 16000000 in
theorem live3_ok : LiveOK := by
  intro w
  have kA := below_alloc w (.cells #[.int .i64 2, .int .i64 2] 3)
  have BA := boxA_new w #[.int .i64 2, .int .i64 2] 3
  have kB := below_alloc (w.alloc (.cells #[.int .i64 2, .int .i64 2] 3)) (.cells #[.int .i64 1, .int .i64 2, .int .i64 3] 3)
  have BB := boxA_new (w.alloc (.cells #[.int .i64 2, .int .i64 2] 3)) #[.int .i64 1, .int .i64 2, .int .i64 3] 3
  have BA2 := BA.below kB (by simp)
  rw [World.size_alloc] at BB
  have g0 : Below w.heap.size w _ := kA.trans (kB.mono (by simp))
  have sv : ((w.alloc (.cells #[.int .i64 2, .int .i64 2] 3)).alloc (.cells #[.int .i64 1, .int .i64 2, .int .i64 3] 3)).heap.size = w.heap.size + 1 + 1 := by simp
  go_enter Tryz.func10, Tryz.ntmps10
  go_wp2_with fail
  generalize hA : (w.alloc (.cells #[.int .i64 2, .int .i64 2] 3)).alloc (.cells #[.int .i64 1, .int .i64 2, .int .i64 3] 3) = v at *
  clear hA kA kB BA
  have R1 := rdN_two (D := fun g => g = w.heap.size + 1) (l := [1, 2, 3]) BB rfl rfl (by intro x hx; simp at hx; rcases hx with rfl | rfl | rfl <;> omega) (by simp)
  have R2 := rdN_two (D := fun g => g = w.heap.size) (l := [2, 2]) BA2 rfl rfl (by intro x hx; simp at hx; subst hx; omega) (by simp)
  have HR2 : Hid (RdN (fun g => g = w.heap.size) v (.slice (some ⟨w.heap.size, 0, none⟩) 2 2) [2, 2]) := R2
  have C1 := ints_any R1 (fun g hg => by omega)
  clear R1 R2
  rw [live_items] at C1
  refine C1.mono ?_
  rintro e w1 ⟨z1, m1, u1, z2, m2, u2, rfl, hv, k1⟩
  clear C1
  have HV : Hid (ArV 1 (Fr v.heap.size w1.heap.size) w1 (.slice z1 m1 u1) (.slice z2 m2 u2) (arrT [3] [wholeT 1, wholeT 2, wholeT 3])) := hv
  have hw3 : ∀ x ∈ [wholeT 1, wholeT 2, wholeT 3], ∀ M, measI M x = some (0, 0) := by
    intro x hx M
    simp only [List.mem_cons, List.not_mem_nil, or_false] at hx
    rcases hx with rfl | rfl | rfl <;> exact whole_meas M (by omega) (by omega)
  have hm : measF 16 (arrT [3] [wholeT 1, wholeT 2, wholeT 3]) = some (1, 3) := meas_simple (L := 15) (t := arrT [3] [wholeT 1, wholeT 2, wholeT 3]) (by decide) (by decide) (by decide) (fun x hx => hw3 x hx _)
  have HW3 : Hid (∀ x ∈ [wholeT 1, wholeT 2, wholeT 3], ∀ M, measI M x = some (0, 0)) := hw3
  have s1 := k1.size
  have C2 := items_some (f := 0) (fun g hg => hg.2) hv (by rw [hm]; rfl) (by decide)
  have e3 : (arrT [3] [wholeT 1, wholeT 2, wholeT 3]).kids = [wholeT 1, wholeT 2, wholeT 3] := rfl
  rw [e3] at C2
  clear hv hm hw3
  go_wp2_with fail
  refine C2.mono ?_
  rintro e w2 ⟨a3, c3, rfl, hr, k2⟩
  clear C2 HV
  have s2 := k2.size
  have HRow : Hid (RowB (Fr w1.heap.size w2.heap.size) 3 (.slice a3 3 c3) (fun g o j => ItC (ArV 0 (Fr w1.heap.size w2.heap.size) w2) (Fr w1.heap.size w2.heap.size) w2 g (o + j * 6) ([wholeT 1, wholeT 2, wholeT 3].getD j tr0))) := hr
  clear hr
  have g2 : Below v.heap.size v w2 := k1.trans (k2.mono s1)
  have hms : msOf [wholeT 1, wholeT 2, wholeT 3] = [(0, 0), (0, 0), (0, 0)] := by
    unfold msOf
    simp only [List.map_cons, List.map_nil]
    rw [HW3.out (wholeT 1) (by simp), HW3.out (wholeT 2) (by simp), HW3.out (wholeT 3) (by simp)]
    rfl
  have C3 := make_ok (w := w2) (f := 0) (D := fun g => g < w2.heap.size) (x1 := some ⟨w.heap.size, 0, none⟩) (y1 := 2) (sh := [2, 2]) (a2 := a3) (c2 := c3) (l := [wholeT 1, wholeT 2, wholeT 3]) (N := 4)
    (HR2.out.imp (fun q hq => by subst hq; omega) (fun q hq => g2.block q (by omega)))
    (RowB.imp HRow.out (fun q hq => hq.2) (fun q o j hq hj hc => hc.imp hq (fun q hq => hq.2) (fun _ _ => rfl) (fun _ _ _ h => h.elim)))
    (fun q hq => hq) (by decide) (by decide) (by decide) (by decide) (by decide) (fun t ht => by rw [HW3.out t ht]; rfl) (by rw [hms]; decide) (by rw [hms]; decide)
  have ec : cyc tr0 [wholeT 1, wholeT 2, wholeT 3] 4 = [wholeT 1, wholeT 2, wholeT 3, wholeT 1] := rfl
  rw [ec] at C3
  clear hms
  have eL : ([wholeT 1, wholeT 2, wholeT 3] : List Tr).length = 3 := rfl
  have eS : ([2, 2] : List Int).length = 2 := rfl
  rw [eL, eS] at C3
  go_wp2_with fail
  refine C3.mono ?_
  rintro e w3 ⟨z4, u4, z5, u5, rfl, hv, k3⟩
  clear C3 HRow
  have s3 := k3.size
  have HV : Hid (ArV 1 (Fr w2.heap.size w3.heap.size) w3 (.slice z4 2 u4) (.slice z5 4 u5) (arrT [2, 2] [wholeT 1, wholeT 2, wholeT 3, wholeT 1])) := hv
  clear hv
  have g3 : Below v.heap.size v w3 := g2.trans (k3.mono (by omega))
  have BX := boxA_new w3 #[.slice z4 2 u4, .slice z5 4 u5] 25
  have kX := below_alloc w3 (.cells #[.slice z4 2 u4, .slice z5 4 u5] 25)
  have g4 : Below v.heap.size v (w3.alloc (.cells #[.slice z4 2 u4, .slice z5 4 u5] 25)) := g3.trans (kX.mono (by omega))
  have l4 := BX.lt
  have C4 := arrInt_any (w3.alloc (.cells #[.slice z4 2 u4, .slice z5 4 u5] 25)) 7 (by omega) (by omega)
  go_wp2_with fail
  generalize hA : w3.alloc (.cells #[.slice z4 2 u4, .slice z5 4 u5] 25) = w4 at *
  clear hA
  refine C4.mono ?_
  rintro e w5 ⟨b, ns, ds, HI, k, rfl, hN, k5⟩
  clear C4
  have s5 := k5.size
  have g5 : Below v.heap.size v w5 := g4.trans (k5.mono (by have := g4.size; omega))
  have C5 := toInt3_any (D := Fr w4.heap.size w5.heap.size) (fun g hg => hg.2) (numAt_arv hN)
  go_wp2_with fail
  refine C5.mono ?_
  rintro e w6 ⟨n, ok, rfl, HT, k6⟩
  clear C5 hN
  have s6 := k6.size
  have g6 : Below v.heap.size v w6 := g5.trans (k6.mono (by have := g5.size; omega))
  have hno : n = 7 ∧ ok = true := by
    have hw := HI.out
    have hms : measI (measF 15) (numT b ns ds) = some (0, 0) := measI_num rfl ⟨hw.right, rfl, rfl⟩
    have hsc : measF 16 (arrT [] [numT b ns ds]) = some (0, 1) := meas_scalar (L := 15) (Or.inl rfl) hms
    rcases HT.out with ⟨_, hti⟩ | ⟨hneg, _⟩
    · rcases hti with ⟨_, h⟩ | ⟨hk, _⟩
      · have hsg := hw.sg.1
        rcases h with ⟨h1, h2, h3, h4, h5⟩ | ⟨h1, h2, h3⟩
        · exact ⟨h5.trans hsg, h1⟩
        · refine absurd ⟨⟨hw.right, hw.2.2.2.2⟩, ?_, ?_⟩ h3
          · show -9223372036854775808 ≤ sg b (val ns); rw [hsg]; omega
          · show sg b (val ns) < 9223372036854775808; rw [hsg]; omega
      · exact absurd rfl hk
    · exact absurd ⟨rfl, by rw [hsc]; rfl, by show ¬ (sizeF ([] : List Int)).1 = 0; decide⟩ hneg
  obtain ⟨rfl, rfl⟩ := hno
  clear HT HI
  have hm : measF 16 (arrT [2, 2] [wholeT 1, wholeT 2, wholeT 3, wholeT 1]) = some (1, 4) := meas_simple (L := 15) (t := arrT [2, 2] [wholeT 1, wholeT 2, wholeT 3, wholeT 1]) (by decide) (by decide) (by decide) (fun x hx => HW3.out x (by
    have hx : x ∈ [wholeT 1, wholeT 2, wholeT 3, wholeT 1] := hx
    simp only [List.mem_cons, List.not_mem_nil, or_false] at hx
    simp only [List.mem_cons, List.not_mem_nil, or_false]
    rcases hx with h | h | h | h
    · exact Or.inl h
    · exact Or.inr (Or.inl h)
    · exact Or.inr (Or.inr h)
    · exact Or.inl h) _)
  have HMs : Hid (measF 16 (arrT [2, 2] [wholeT 1, wholeT 2, wholeT 3, wholeT 1]) = some (1, 4)) := hm
  clear hm
  have k46 : Below w4.heap.size w4 w6 := k5.trans (k6.mono s5)
  have hv6 : ∀ {w' : World}, Below w4.heap.size w4 w' → ArV 1 (Fr w2.heap.size w3.heap.size) w' (.slice z4 2 u4) (.slice z5 4 u5) (arrT [2, 2] [wholeT 1, wholeT 2, wholeT 3, wholeT 1]) := fun kk => HV.out.agree (fun q hq => by rw [kk.block q (by have := hq.2; omega), kX.block q hq.2])
  have HV6 : Hid (∀ {w' : World}, Below w4.heap.size w4 w' → ArV 1 (Fr w2.heap.size w3.heap.size) w' (.slice z4 2 u4) (.slice z5 4 u5) (arrT [2, 2] [wholeT 1, wholeT 2, wholeT 3, wholeT 1])) := hv6
  clear hv6
  have X6 := BX.below k46 l4
  have x0 := X6.cell 0 rfl
  have x1 := X6.cell 1 rfl
  have C6 := right3_any (fun q hq => by have := hq.2; omega) (HV6.out k46)
  rw [HMs.out] at C6
  simp only [Option.isSome_some] at C6
  go_wp2_with fail
  refine C6.mono ?_
  rintro e w7 ⟨rfl, k7⟩
  clear C6 x0 x1
  have s7 := k7.size
  have k47 : Below w4.heap.size w4 w7 := k46.trans (k7.mono (by have := k46.size; omega))
  have X7 := BX.below k47 l4
  have x0 := X7.cell 0 rfl
  have x1 := X7.cell 1 rfl
  have C7 := depth3_any (fun q hq => by have := hq.2; omega) (HV6.out k47)
  rw [HMs.out] at C7
  simp only [Option.getD_some] at C7
  go_wp2_with fail
  refine C7.mono ?_
  rintro e w8 ⟨rfl, k8⟩
  clear C7 x0 x1
  have s8 := k8.size
  have k48 : Below w4.heap.size w4 w8 := k47.trans (k8.mono (by have := k47.size; omega))
  have X8 := BX.below k48 l4
  have x0 := X8.cell 0 rfl
  have x1 := X8.cell 1 rfl
  have C8 := cells3_any (fun q hq => by have := hq.2; omega) (HV6.out k48)
  rw [HMs.out] at C8
  simp only [Option.getD_some] at C8
  go_wp2_with fail
  refine C8.mono ?_
  rintro e w9 ⟨rfl, k9⟩
  clear C8 x0 x1
  have s9 := k9.size
  have k49 : Below w4.heap.size w4 w9 := k48.trans (k9.mono (by have := k48.size; omega))
  go_wp2
  go_ret
  exact ⟨rfl, g0.trans ((g4.trans (k49.mono (by have := g4.size; omega))).mono (by omega))⟩
end Go.Proofs.YtnlmjibdifbnbaaGreat
