/- The walk over LexParts. -/
import Derived.Test.YtkhmbceadeejpaaJD
import Derived.Test.YtkhmbceadeejpaaJC
import Derived.Test.YtkhmbceadeejpaaJA
namespace Go.Proofs.Ytkhmbceadeejpaa
set_option linter.unusedVariables false
set_option linter.unusedSimpArgs false
open Go.RowKit Go.Shelf

theorem parts_small {ne : ByteArray → Int} {s : ByteArray} (h : (splitF ne s).2.1 = 0) : ∀ T ∈ (splitF ne s).1, T.size ≤ 1024 := (split_units h).2
set_option maxRecDepth 100000 in
set_option maxHeartbeats 6400000 in
theorem lexParts_walk {w : World} (s : ByteArray) (hs : s.size ≤ 9223372036854775807) :
    Calls Try.prog 4 #[.string s] w fun e w' => e = .returned (.bool true) ∧ Below w.heap.size w w' := by
  obtain ⟨ne, hne⟩ := tellsErr_ex
  have HNE : Hid (TellsErr ne) := hne
  have HP : Hid ((splitF ne s).2.1 = 0 → (0 < (splitF ne s).1.length ∧ ∀ T ∈ (splitF ne s).1, splitF ne T = ([T], 0, 0)) ∧ ∀ T ∈ (splitF ne s).1, T.size ≤ 1024) := fun h => ⟨split_parts h, parts_small h⟩
  have HX : Hid (¬ (splitF ne s).2.1 = 0 → (splitF ne s).1 = []) := fun h => split_err h
  clear hne
  go_enter Try.func4, Try.ntmps4
  go_wp2_with fail
  refine (lexSplit_any HNE.out s hs).mono ?_
  rintro e w1 ⟨v1, rfl, hr1, k1⟩
  obtain ⟨a1, c1, rfl⟩ := row_form2 hr1
  have s1 := k1.size
  have HR1 : Hid (w1.ownsRow w.heap.size 9 1 (.slice a1 (splitF ne s).1.length c1) (splitF ne s).1.length ((splitF ne s).1.map Value.string)) := hr1
  clear hr1
  generalize (splitF ne s).2.1 = ER at *
  generalize (splitF ne s).2.2 = AT at *
  generalize (splitF ne s).1 = L at *
  by_cases h0 : ER = 0
  · have h1 : (ER != 0) = false := by rw [h0]; rfl
    obtain ⟨⟨hL, hp⟩, hz⟩ := HP.out h0
    have HPP : Hid (∀ T ∈ L, splitF ne T = ([T], 0, 0)) := hp
    have HZ : Hid (∀ T ∈ L, T.size ≤ 1024) := hz
    clear hp hz HP HX h0
    obtain ⟨g1, rfl, hc1, hc2, hg1⟩ := row_ptr HR1.out hL
    go_wp2
    go_loopw [6] (fun iv wr => ∃ i : Nat, iv = .int .i64 i ∧ i ≤ L.length ∧ Below w1.heap.size w1 wr) (fun iv _ => L.length - (intOf iv).toNat)
    case atStart => exact ⟨0, rfl, Nat.zero_le _, Below.refl _ _⟩
    case round =>
      obtain ⟨i, rfl, hil, hb⟩ := hrel
      by_cases hlt : i < L.length
      · have q1 : wr.cell? ⟨g1, i, none⟩ = some (.string L[i]) := by rw [hb.cell (p := ⟨g1, i, none⟩) hg1, HR1.out.cellAt i (by omega)]; simp [hlt]
        have HS : Hid (splitF ne L[i] = ([L[i]], 0, 0)) := HPP.out _ (List.getElem_mem hlt)
        have HZ1 : Hid (L[i].size ≤ 1024) := HZ.out _ (List.getElem_mem hlt)
        generalize L[i] = T at *
        go_wp2_with fail
        have hzz := HZ1.out
        refine (lexSplit_any HNE.out T (by omega)).mono ?_
        rintro e w2 ⟨v2, rfl, hr2, k2⟩
        rw [HS.out] at hr2 ⊢
        obtain ⟨a2, c2, rfl⟩ := row_form2 hr2
        obtain ⟨g2, rfl, hd1, hd2, hg2⟩ := row_ptr hr2 (by simp)
        have s2 := k2.size
        have sb := hb.size
        have p1 : w2.cell? ⟨g1, i, none⟩ = some (.string T) := by rw [k2.cell (p := ⟨g1, i, none⟩) (show g1 < wr.heap.size by omega)]; exact q1
        have p2 : w2.cell? ⟨g2, 0, none⟩ = some (.string T) := by
          have := hr2.cellAt 0 (by simp)
          simpa using this
        have hk : Below w1.heap.size w1 w2 := hb.trans (k2.mono (by omega))
        clear hr2 k2 q1 hb
        simp only [List.length_cons, List.length_nil, Nat.zero_add] at *
        have h4 : (T.toList == T.toList) = true := beq_self_eq_true _
        have h5 : (T.toList != T.toList) = false := by rw [bne, h4]; rfl
        go_wp2
        go_region
        all_goals
          go_wp2
          go_roundw
          case rel => exact ⟨i + 1, by go_num, by omega, (by first | exact hk | exact hk.trans ⟨rfl, rfl, rfl, Nat.le_refl _, fun _ _ => rfl⟩)⟩
          case measure => simp [intOf]; omega
      · go_wp2_with fail
        refine (live_lex _).mono ?_
        rintro e w3 ⟨rfl, k3⟩
        have s3 := k3.size
        have sb := hb.size
        go_wp2
        go_ret
        exact ⟨rfl, k1.trans ((hb.trans (k3.mono (by omega))).mono (by omega))⟩
  · have h1 : (ER != 0) = true := by rw [bne_iff_ne]; exact h0
    obtain rfl := HX.out h0
    clear HP HX h0
    simp only [List.length_nil] at *
    go_wp2_with fail
    refine (live_lex _).mono ?_
    rintro e w3 ⟨rfl, k3⟩
    go_wp2
    go_ret
    exact ⟨rfl, k1.trans (k3.mono (by omega))⟩
end Go.Proofs.Ytkhmbceadeejpaa
