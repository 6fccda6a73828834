/- The walk over LexQuotes. -/
import Derived.Test.YthfmicokddcglaaGreatDoorLM
import Derived.Test.YthfmicokddcglaaGreatDoorLI
import Derived.Test.YthfmicokddcglaaGreatDoorLF
import Derived.Test.YthfmicokddcglaaGreatDoorLA
import Derived.Test.YthfmicokddcglaaGreatDoorLC
namespace Go.Proofs.YthfmicokddcglaaGreatDoor
set_option linter.unusedVariables false
set_option linter.unusedSimpArgs false
open Go.RowKit Go.Shelf

theorem quoted_size (s : ByteArray) : (quoted s).size ≤ 2 * s.size + 2 ∧ s.size ≤ (quoted s).size := by
  have h : (quoted s).data.toList = 39 :: (dbl s.data.toList ++ [39]) := rfl
  have h2 : (quoted s).size = (quoted s).data.toList.length := by simp
  have h3 : s.data.toList.length = s.size := by simp
  have h4 := List.count_le_length (a := (39 : UInt8)) (l := s.data.toList)
  rw [h2, h, List.length_cons, List.length_append, dbl_len, h3]
  simp only [List.length_cons, List.length_nil]
  omega
theorem quoted_arr (na : ByteArray → Tr) {s : ByteArray} (h : (scanR s s.size 0 []).2.1 = 0) : arrF na 2 (quoted s) = qA (scanR s s.size 0 []).1 := by
  obtain ⟨h1, h2, h3⟩ := quoted_scan h
  unfold arrF
  rw [if_neg (by decide), if_pos rfl, h3]
  simp only
  rw [qL_qscan]
set_option maxRecDepth 100000 in
set_option maxHeartbeats 6400000 in
theorem lexQuotes_walk {w : World} (s : ByteArray) (hs : s.size ≤ 2000000) :
    Calls Tryz.prog 3 #[.string s] w fun e w' => e = .returned (.bool true) ∧ Below w.heap.size w w' := by
  obtain ⟨ne, hne⟩ := tellsErr_ex
  obtain ⟨na, hna⟩ := tellsArr_ex
  have HNE : Hid (TellsErr ne) := hne
  have HNA : Hid (TellsArr na) := hna
  have HB : Hid (¬ (scanR s s.size 0 []).2.1 = 0 → ¬ (allF ne (quoted s)).2.1 = 0) := allF_bad ne
  have HL : Hid (1024 < (quoted s).size → allF ne (quoted s) = ([], 25, 0)) := allF_long ne
  have HQ : Hid ((scanR s s.size 0 []).2.1 = 0 → (quoted s).size ≤ 1024 → allF ne (quoted s) = ([(2, quoted s, 0, 0), (0, ⟨#[]⟩, (qL (scanR s s.size 0 []).1).length, 0)], 0, 0)) := fun h hz => allF_quoted ne h hz
  have HA : Hid ((scanR s s.size 0 []).2.1 = 0 → arrF na 2 (quoted s) = qA (scanR s s.size 0 []).1) := fun h => quoted_arr na h
  have HK : Hid (∀ c ∈ (scanR s s.size 0 []).1, okRune c) := scanR_ok s s.size 0 [] (fun c h => by cases h)
  have HN : Hid ((scanR s s.size 0 []).1.length ≤ s.size) := scanR_len s s.size 0 [] (by simp) (by omega)
  obtain ⟨hq1, hq2⟩ := quoted_size s
  obtain ⟨Q, hQ⟩ : ∃ Q, quoted s = Q := ⟨_, rfl⟩
  rw [hQ] at HB HL HQ HA hq1 hq2
  have HQE : Hid (quoted s = Q) := hQ
  clear hne hna hQ
  go_enter Tryz.func3, Tryz.ntmps3
  go_wp2_with fail
  refine (runes_all s _ hs).mono ?_
  rintro e w1 ⟨cs, a, c, er, at', rfl, hown, HSC, k1⟩
  have s1 := k1.size
  rw [HSC.out] at HB HQ HA HK HN
  have hcl : cs.length ≤ s.size := HN.out
  have HR : Hid (RdR w1.heap.size w1 (.slice a cs.length c) cs) := OwnR.rdR hown
  have HBn : Hid (cs.length ≤ c ∧ c ≤ 9223372036854775807) := by
    obtain ⟨a', c', e, b1, b2, _⟩ := OwnR.rdR hown
    obtain ⟨_, _, rfl⟩ := Value.slice.inj e
    exact ⟨b1, b2⟩
  clear hown HN HSC
  go_wp2_with fail
  refine (lexQuote_any s _ hs).mono ?_
  rintro e w2 ⟨rfl, k2⟩
  rw [HQE.out]
  have s2 := k2.size
  go_wp2_with fail
  refine (all_anyA HNE.out HNA.out Q (by omega)).mono ?_
  rintro e w3 ⟨v3, base3, toks, rfl, hr3, hc3, ht3, k3⟩
  obtain ⟨a3, c3, rfl⟩ := row_form2 hr3
  have s3 := k3.size
  have kk : Below w.heap.size w w3 := k1.trans ((k2.trans (k3.mono s2)).mono s1)
  have HR3 : Hid (RdR w3.heap.size w3 (.slice a cs.length c) cs) := ((HR.out.below (k2.trans (k3.mono s2))).mono (by omega))
  clear k1 k2 k3 HR
  by_cases her : er = 0
  · subst her
    by_cases hlong : 1024 < Q.size
    · rw [HL.out hlong]
      clear hr3 hc3 ht3 HQ HB HL
      go_wp2_with fail
      refine (live_lex _).mono ?_
      rintro e w4 ⟨rfl, k4⟩
      go_wp2
      go_ret
      exact ⟨rfl, kk.trans (k4.mono kk.size)⟩
    · have hal := HQ.out rfl (by omega)
      have hAr := HA.out rfl
      rw [hal] at hc3 ⊢
      obtain ⟨t0, t1, rfl⟩ : ∃ t0 t1, toks = [t0, t1] := by
        have hl := congrArg List.length hc3
        rw [List.length_map] at hl
        simp only [List.length_cons, List.length_nil] at hl
        rcases toks with _ | ⟨t0, _ | ⟨t1, _ | ⟨t2, r⟩⟩⟩
        · simp at hl
        · simp at hl
        · exact ⟨t0, t1, rfl⟩
        · simp at hl
      have hcore : t0.core = (2, Q, 0, 0) := (List.cons.inj hc3).1
      have hkd : t0.kd = 2 := congrArg (fun x => x.1) hcore
      have htx : t0.tx = Q := congrArg (fun x => x.2.1) hcore
      have hT := ht3 t0 (by simp)
      obtain ⟨g3, rfl, b1, b2, hg3⟩ := row_ptr hr3 (by simp)
      have hcell : ∀ k, k < 5 → ∀ u, t0.cells[k]? = some u → w3.cell? ⟨g3, k, none⟩ = some u := fun k hk u hu => by
        have := hr3.cellAt k (by simp only [List.length_cons, List.length_nil]; omega)
        rw [this]
        have h6 := flat_get (xs := [t0, t1]) (i := 0) (by simp) k hk
        simp only [Nat.mul_zero, Nat.zero_add] at h6
        rw [h6]; exact hu
      have q0 := hcell 0 (by omega) _ rfl
      have q1 := hcell 1 (by omega) _ rfl
      have q3 := hcell 3 (by omega) _ rfl
      have q4 := hcell 4 (by omega) _ rfl
      clear hcell hr3 hc3 ht3 hcore
      obtain ⟨kd, tx, pl, er0, xa1, xn1, xc1, xa2, xn2, xc2⟩ := t0
      dsimp only at *
      subst hkd htx
      rw [hAr] at hT
      have HT : Hid (TA w2.heap.size w3 xa1 xn1 xc1 xa2 xn2 xc2 (qA cs)) := hT
      have f1 : (tx.toList == tx.toList) = true := beq_self_eq_true _
      have f2 : (tx.toList != tx.toList) = false := by rw [bne, f1]; rfl
      have f3 : ((cs.length : Int) != (cs.length : Int)) = false := by rw [bne_eq_false_iff_eq]
      clear hT hal hAr HQ HB HL HA HQE
      simp only [List.length_cons, List.length_nil] at b1 ⊢
      have C1 := items_q HT.out HK.out (by omega)
      go_wp2_with fail
      refine C1.mono ?_
      rintro e w4 ⟨z4, u4, rfl, i1, i2, _, k4⟩
      clear C1
      have s4 := k4.size
      have p0 := (k4.cell (p := ⟨g3, 0, none⟩) hg3).trans q0
      have p3 := (k4.cell (p := ⟨g3, 3, none⟩) hg3).trans q3
      have p4 := (k4.cell (p := ⟨g3, 4, none⟩) hg3).trans q4
      have C2 := items_q (HT.out.below k4) HK.out (by omega)
      clear q0 q1 q3 q4
      go_wp2_with fail
      refine C2.mono ?_
      rintro e w5 ⟨z5, u5, rfl, j1, j2, HI, k5⟩
      clear C2
      have s5 := k5.size
      have k35 : Below w3.heap.size w3 w5 := k4.trans (k5.mono s4)
      have s5' := k35.size
      have HR5 : Hid (RdR w3.heap.size w5 (.slice a cs.length c) cs) := HR3.out.below k35
      go_wp2
      go_loopw [11] (fun iv wr => ∃ i : Nat, iv = .int .i64 i ∧ i ≤ cs.length ∧ Below w5.heap.size w5 wr) (fun iv _ => cs.length - (intOf iv).toNat)
      case atStart => exact ⟨0, rfl, Nat.zero_le _, Below.refl _ _⟩
      case round =>
        obtain ⟨i, rfl, hil, hbw⟩ := hrel
        by_cases hlt : i < cs.length
        · rcases HI.out with h0 | ⟨g, o, rfl, hg, _, _, hc⟩
          · omega
          obtain ⟨a', c', e, b3, b4, hrd⟩ := HR5.out
          obtain ⟨rfl, _, rfl⟩ := Value.slice.inj e
          rcases hrd with h0 | ⟨b, off, rfl, hbB, hcc⟩
          · omega
          have m1 := (hbw.cell (p := ⟨g, o + i * 6 + 4, none⟩) hg).trans (hc i hlt)
          have m2 := (hbw.cell (p := ⟨b, off + i, none⟩) (show b < w5.heap.size by omega)).trans (hcc i hlt)
          generalize cs.getD i 0 = X at *
          have f4 : (X != X) = false := by simp
          clear hc hcc e
          go_wp2
          go_quiet (fail)
          go_wp2
          go_roundw
          case rel => exact ⟨i + 1, by go_num, by omega, hbw.trans (by first | exact Below.refl _ _ | exact ⟨rfl, rfl, rfl, Nat.le_refl _, fun _ _ => rfl⟩)⟩
          case measure => simp [intOf]; omega
        · obtain rfl : i = cs.length := by omega
          go_wp2_with fail
          refine (live_lex _).mono ?_
          rintro e w6 ⟨rfl, k6⟩
          go_wp2
          go_ret
          have kv : Below w.heap.size w wr := kk.trans ((k35.trans (hbw.mono s5')).mono kk.size)
          exact ⟨rfl, kv.trans (k6.mono kv.size)⟩
  · have e1 : (er != 0) = true := by rw [bne_iff_ne]; exact her
    have hb := HB.out her
    have e2 : ((allF ne Q).2.1 != 0) = true := by rw [bne_iff_ne]; exact hb
    generalize (allF ne Q).2.1 = F at *
    clear hr3 hc3 ht3 HQ HB HL HA
    go_wp2_with fail
    refine (live_lex _).mono ?_
    rintro e w4 ⟨rfl, k4⟩
    go_wp2
    go_ret
    exact ⟨rfl, kk.trans (k4.mono kk.size)⟩
end Go.Proofs.YthfmicokddcglaaGreatDoor
