/- The walk over LexJoins. -/
import Derived.Test.YtkhmbceadeejpaaJD
import Derived.Test.YtkhmbceadeejpaaJC
import Derived.Test.YtkhmbceadeejpaaJA
namespace Go.Proofs.Ytkhmbceadeejpaa
set_option linter.unusedVariables false
set_option linter.unusedSimpArgs false
open Go.RowKit Go.Shelf

theorem join_snoc : ∀ (l : List ByteArray) (T : ByteArray), 0 < l.length → joinT (l ++ [T]) = joinT l ++ (diaT.data.toList ++ T.data.toList)
  | [], T, h => by simp at h
  | [U], T, _ => rfl
  | U :: V :: r, T, _ => by
    have ih := join_snoc (V :: r) T (by simp)
    rw [List.cons_append, join_cons U (by simp), ih, join_cons U (by simp)]
    simp
theorem join_step {L : List ByteArray} {i : Nat} (h0 : 0 < i) (hi : i < L.length) : joinT (L.take (i + 1)) = joinT (L.take i) ++ (diaT.data.toList ++ L[i].data.toList) := by
  rw [← List.take_append_getElem hi, join_snoc _ _ (by simp; omega)]
theorem spl_len (cs : List Int) : ∀ (l cur : List (Int × ByteArray × Nat × Int)) (op : Nat), (spl cs l cur op).length ≤ l.length
  | [], cur, op => by rw [spl]; simp
  | t :: r, cur, op => by
    rw [spl]
    have h := spl_len cs r
    repeat' split
    all_goals first | (have := h [] op; simp; omega) | (have := h (cur ++ [t]) (op + 1); simp; omega) | (have := h (cur ++ [t]) (op - 1); simp; omega) | (have := h (cur ++ [t]) op; simp; omega)
theorem split_len (ne : ByteArray → Int) (s : ByteArray) : (splitF ne s).1.length ≤ 1025 := by
  have h1 := allF_len ne s
  unfold splitF
  split
  · exact Nat.le_trans (spl_len _ _ _ _) h1
  · simp
theorem app_size (a b : ByteArray) : (a ++ b).size = a.size + b.size := ByteArray.size_append
theorem app_list (a b : ByteArray) : (a ++ b).data.toList = a.data.toList ++ b.data.toList := by simp
set_option maxRecDepth 100000 in
set_option maxHeartbeats 6400000 in
theorem lexJoins_walk {w : World} (s : ByteArray) (hs : s.size ≤ 9223372036854775807) :
    Calls Try.prog 5 #[.string s] w fun e w' => e = .returned (.bool true) ∧ Below w.heap.size w w' := by
  obtain ⟨ne, hne⟩ := tellsErr_ex
  have HNE : Hid (TellsErr ne) := hne
  have HP : Hid ((splitF ne s).2.1 = 0 → (0 < (splitF ne s).1.length ∧ ∀ J : ByteArray, J.data.toList = joinT (splitF ne s).1 → J.size ≤ 1024 → splitF ne J = ((splitF ne s).1, 0, 0)) ∧ ∀ T ∈ (splitF ne s).1, T.size ≤ 1024) := fun h => ⟨⟨(split_parts h).1, fun J hJ hz => split_joins h hJ hz⟩, (split_units h).2⟩
  have HLL : Hid ((splitF ne s).1.length ≤ 1025) := split_len ne s
  clear hne
  go_enter Try.func5, Try.ntmps5
  go_wp2_with fail
  refine (lexSplit_any HNE.out s hs).mono ?_
  rintro e w1 ⟨v1, rfl, hr1, k1⟩
  obtain ⟨a1, c1, rfl⟩ := row_form2 hr1
  have s1 := k1.size
  have HR1 : Hid (w1.ownsRow w.heap.size 9 1 (.slice a1 (splitF ne s).1.length c1) (splitF ne s).1.length ((splitF ne s).1.map Value.string)) := hr1
  clear hr1
  generalize (splitF ne s).2.1 = ER at *
  generalize (splitF ne s).2.2 = AT at *
  generalize (splitF ne s).1 = L at *
  by_cases h0 : ER = 0
  · have h1 : (ER != 0) = false := by rw [h0]; rfl
    obtain ⟨⟨hL, hp⟩, hz⟩ := HP.out h0
    have HPP : Hid (∀ J : ByteArray, J.data.toList = joinT L → J.size ≤ 1024 → splitF ne J = (L, 0, 0)) := hp
    have HZ : Hid (∀ T ∈ L, T.size ≤ 1024) := hz
    clear hp hz HP h0
    obtain ⟨g1, rfl, hc1, hc2, hg1⟩ := row_ptr HR1.out hL
    have hle : ((L.length : Int) == 0) = false := by rw [beq_eq_false_iff_ne]; omega
    have q0 : w1.cell? ⟨g1, 0, none⟩ = some (.string (L.getD 0 ⟨#[]⟩)) := by rw [show (⟨g1, 0, none⟩ : Addr) = ⟨g1, 0, none⟩ from rfl, HR1.out.cellAt 0 (by omega)]; simp [hL]
    have HJ0 : Hid ((L.getD 0 ⟨#[]⟩).data.toList = joinT (L.take 1)) := by
      unfold Hid
      cases L with
      | nil => simp at hL
      | cons x r => rfl
    have HZ0 : Hid ((L.getD 0 ⟨#[]⟩).size ≤ 1024) := by
      cases L with
      | nil => simp at hL
      | cons x r => exact HZ.out x (by simp)
    generalize L.getD 0 ⟨#[]⟩ = S0 at *
    go_wp2
    go_loopw [6, 7] (fun sv iv wr => ∃ (i : Nat) (S : ByteArray), sv = .string S ∧ iv = .int .i64 i ∧ 0 < i ∧ i ≤ L.length ∧ S.size ≤ i * 1100 ∧ Hid (S.data.toList = joinT (L.take i)) ∧ Below w1.heap.size w1 wr) (fun _ iv _ => L.length - (intOf iv).toNat)
    case atStart => exact ⟨1, S0, rfl, rfl, by omega, by omega, by have := HZ0.out; omega, HJ0, Below.refl _ _⟩
    case round =>
      obtain ⟨i, S, rfl, rfl, hi0, hil, hsz, HS, hb⟩ := hrel
      have hLL := HLL.out
      by_cases hlt : i < L.length
      · have q1 : wr.cell? ⟨g1, i, none⟩ = some (.string L[i]) := by rw [hb.cell (p := ⟨g1, i, none⟩) hg1, HR1.out.cellAt i (by omega)]; simp [hlt]
        have HS2 : Hid (joinT (L.take (i + 1)) = joinT (L.take i) ++ (diaT.data.toList ++ L[i].data.toList)) := join_step hi0 hlt
        have hz1 : L[i].size ≤ 1024 := HZ.out _ (List.getElem_mem hlt)
        generalize L[i] = T at *
        have hd : (⟨#[226, 139, 132]⟩ : ByteArray) = diaT := rfl
        go_wp2
        all_goals first | (rename_i h; exfalso; (try rw [app_size] at h); rw [show diaT.size = 3 from rfl] at h; omega) | skip
        go_roundw
        case rel =>
          refine ⟨i + 1, S ++ (diaT ++ T), rfl, by go_num, by omega, by omega, ?_, ?_, hb⟩
          · rw [app_size, app_size, show diaT.size = 3 from rfl]; omega
          · unfold Hid
            rw [app_list, app_list, HS.out, HS2.out]
        case measure => simp [intOf]; omega
      · obtain rfl : i = L.length := by omega
        have HS3 : Hid (S.data.toList = joinT L) := by
          have := HS.out
          rw [List.take_length] at this
          exact this
        clear HS
        go_wp2_with fail
        refine (lexSplit_any HNE.out S (by omega)).mono ?_
        rintro e w2 ⟨v2, rfl, hr2, k2⟩
        obtain ⟨a2, c2, rfl⟩ := row_form2 hr2
        have s2 := k2.size
        have sb := hb.size
        have hk : Below w1.heap.size w1 w2 := hb.trans (k2.mono (by omega))
        by_cases hlong : 1024 < S.size
        · clear hr2
          go_wp2_with fail
          refine (live_lex _).mono ?_
          rintro e w3 ⟨rfl, k3⟩
          go_wp2
          go_ret
          exact ⟨rfl, k1.trans ((hk.trans (k3.mono (by have := hk.size; omega))).mono (by omega))⟩
        · have HQ : Hid (splitF ne S = (L, 0, 0)) := HPP.out S HS3.out (by omega)
          rw [HQ.out] at hr2 ⊢
          obtain ⟨g2, rfl, hd1, hd2, hg2⟩ := row_ptr hr2 hL
          have HR2 : Hid (w2.ownsRow wr.heap.size 9 1 (.slice (some ⟨g2, 0, none⟩) L.length c2) L.length (L.map Value.string)) := hr2
          clear hr2
          have h3 : ((L.length : Int) != (L.length : Int)) = false := by rw [bne_eq_false_iff_eq]
          go_wp2
          go_loopw [11] (fun iv wr => ∃ i : Nat, iv = .int .i64 i ∧ i ≤ L.length ∧ Below w2.heap.size w2 wr) (fun iv _ => L.length - (intOf iv).toNat)
          case atStart => exact ⟨0, rfl, Nat.zero_le _, Below.refl _ _⟩
          case round =>
            obtain ⟨i, rfl, hil2, hb2⟩ := hrel
            by_cases hlt : i < L.length
            · have hk2 := hk.size
              have q1 : wr.cell? ⟨g1, i, none⟩ = some (.string L[i]) := by rw [hb2.cell (p := ⟨g1, i, none⟩) (show g1 < w2.heap.size by omega), hk.cell (p := ⟨g1, i, none⟩) hg1, HR1.out.cellAt i (by omega)]; simp [hlt]
              have q2 : wr.cell? ⟨g2, i, none⟩ = some (.string L[i]) := by rw [hb2.cell (p := ⟨g2, i, none⟩) hg2, HR2.out.cellAt i (by omega)]; simp [hlt]
              generalize L[i] = T at *
              have h4 : (T.toList == T.toList) = true := beq_self_eq_true _
              have h5 : (T.toList != T.toList) = false := by rw [bne, h4]; rfl
              go_wp2
              go_region
              all_goals
                go_wp2
                go_roundw
                case rel => exact ⟨i + 1, by go_num, by omega, (by first | exact hb2 | exact hb2.trans ⟨rfl, rfl, rfl, Nat.le_refl _, fun _ _ => rfl⟩)⟩
                case measure => simp [intOf]; omega
            · go_wp2_with fail
              refine (live_lex _).mono ?_
              rintro e w3 ⟨rfl, k3⟩
              have s3 := k3.size
              have sb2 := hb2.size
              have hk2 := hk.size
              go_wp2
              go_ret
              exact ⟨rfl, k1.trans ((hk.trans ((hb2.trans (k3.mono (by omega))).mono (by omega))).mono (by omega))⟩
  · have h1 : (ER != 0) = true := by rw [bne_iff_ne]; exact h0
    clear HP h0
    go_wp2_with fail
    refine (live_lex _).mono ?_
    rintro e w3 ⟨rfl, k3⟩
    go_wp2
    go_ret
    exact ⟨rfl, k1.trans (k3.mono (by omega))⟩
end Go.Proofs.Ytkhmbceadeejpaa
