/- lex.next, with the token's array. -/
import Derived.Test.YthfmicokddcglaaGreatDoorLE
import Derived.Test.YthfmicokddcglaaGreatDoorLD
namespace Go.Proofs.YthfmicokddcglaaGreatDoor
set_option linter.unusedVariables false
set_option linter.unusedSimpArgs false
open Go.RowKit Go.Shelf

/-- A token with its array, its end, and no error; or an error. -/
def TokIsA (na : ByteArray → Tr) (w : World) (cs : List Int) (i : Nat) (r : Int × Nat × Int) (e : Ending) (w' : World) : Prop :=
  (r.2.2 = 0 ∧ ∃ a1 n1 c1 a2 n2 c2, e = .returned (.tuple #[.agg #[.int .u8 r.1, .string (cutText cs i r.2.1), .int .i64 i, .slice a1 n1 c1, .slice a2 n2 c2], .int .i64 r.2.1, .int .i64 0]) ∧ TA w.heap.size w' a1 n1 c1 a2 n2 c2 (arrF na r.1 (cutText cs i r.2.1)) ∧ Below w.heap.size w w') ∨
  (¬ r.2.2 = 0 ∧ e = .returned (.tuple #[.agg #[.int .u8 0, .string ⟨#[]⟩, .int .i64 0, .slice none 0 0, .slice none 0 0], .int .i64 0, .int .i64 r.2.2]) ∧ Below w.heap.size w w')
theorem arrF_none (na : ByteArray → Tr) {kd : Int} (h1 : ¬ kd = 1) (h2 : ¬ kd = 2) (tx : ByteArray) : arrF na kd tx = arrT [] [] := by unfold arrF; rw [if_neg h1, if_neg h2]
theorem arrF_text (na : ByteArray → Tr) {cs : List Int} (hok : ∀ c ∈ cs, okRune c) {i j : Nat} {acc : List Int} (hi : i < cs.length) (h : qscan cs cs.length (i + 1) [] = some (acc, j)) : arrF na 2 (cutText cs i j) = qA acc := by
  have he := qscan_end cs _ _ _ _ h
  simp only at he
  have hlen : ((cs.drop i).take (j - i)).length = j - i := by simp; omega
  have hS : Seg cs ((cs.drop i).take (j - i)) i := ⟨by rw [hlen]; omega, by rw [hlen]⟩
  have hq := hS.q _ 1 ((cs.drop i).take (j - i)).length [] acc j (by rw [show i + 1 = i + 1 from rfl] at h; exact h) (by rw [hlen]; omega) (by omega)
  have hsc : (scanR (cutText cs i j) (cutText cs i j).size 0 []).1 = (cs.drop i).take (j - i) := by
    unfold cutText
    rw [scan_back _ (fun c hc => hok c (List.mem_of_mem_drop (List.mem_of_mem_take hc)))]
  unfold arrF
  rw [if_neg (by decide), if_pos rfl, hsc, hq]
section
variable {w : World} {cs : List Int} {b off cap : Nat} {ne : ByteArray → Int} {na : ByteArray → Tr}
set_option maxRecDepth 100000 in
set_option maxHeartbeats 16000000 in
theorem numberAt_anyA (hne : TellsErr ne) (hna : TellsArr na) (i : Nat) (hi : i < cs.length) (hk : cs.length ≤ cap) (hcap : cap ≤ 9223372036854775807) (hc : ∀ m, m < cs.length → w.cell? ⟨b, off + m, none⟩ = some (.int .i32 (cs.getD m 0))) (hlt : b < w.heap.size) :
    Calls Tryz.prog 31 #[.slice (some ⟨b, off, none⟩) cs.length cap, .int .i64 i] w fun e w' => TokIsA na w cs i (1, runEnd inn cs (i + 1), ne (cutText cs i (runEnd inn cs (i + 1)))) e w' := by
  have hle := runEnd_le inn cs (i + 1) (by omega)
  have k0 := below_alloc w (.cells #[.int .u8 0, .string ⟨#[]⟩, .int .i64 0, .slice none 0 0, .slice none 0 0] 37)
  have R := boxA_new w #[.int .u8 0, .string ⟨#[]⟩, .int .i64 0, .slice none 0 0, .slice none 0 0] 37
  have s0 : w.heap.size < (w.alloc (.cells #[.int .u8 0, .string ⟨#[]⟩, .int .i64 0, .slice none 0 0, .slice none 0 0] 37)).heap.size := by simp
  have HC : Hid (∀ m, m < cs.length → (w.alloc (.cells #[.int .u8 0, .string ⟨#[]⟩, .int .i64 0, .slice none 0 0, .slice none 0 0] 37)).cell? ⟨b, off + m, none⟩ = some (.int .i32 (cs.getD m 0))) := fun m hm => (k0.cell (p := ⟨b, off + m, none⟩) hlt).trans (hc m hm)
  have HNE : Hid (TellsErr ne) := hne
  have HNA : Hid (TellsArr na) := hna
  clear hc hne hna
  go_enter Tryz.func31, Tryz.ntmps31
  go_wp2_with fail
  generalize hA : w.alloc (.cells #[.int .u8 0, .string ⟨#[]⟩, .int .i64 0, .slice none 0 0, .slice none 0 0] 37) = v at *
  clear hA
  have hR : RdR v.heap.size v (.slice (some ⟨b, off, none⟩) cs.length cap) cs := ⟨_, cap, rfl, hk, hcap, Or.inr ⟨b, off, rfl, by omega, HC.out⟩⟩
  refine (run_number hR (i + 1) (by omega)).mono ?_
  rintro e w1 ⟨rfl, rfl⟩
  obtain ⟨j, hj⟩ : ∃ j, runEnd inn cs (i + 1) = j := ⟨_, rfl⟩
  have HJ : Hid (runEnd inn cs (i + 1) = j) := hj
  rw [hj] at hle ⊢
  clear hj
  go_wp2_with fail
  refine (piece_any 1 i j (by omega) hle.2 hk hcap HC.out (by omega)).mono ?_
  rintro e w2 ⟨rfl, k2⟩
  obtain ⟨T, hTT⟩ : ∃ T, cutText cs i j = T := ⟨_, rfl⟩
  have HTc : Hid (cutText cs i j = T) := hTT
  rw [hTT]
  clear hTT HC hR
  have s2 := k2.size
  have kt := below_alloc w2 (.cells #[.int .u8 1, .string T, .int .i64 i, .slice none 0 0, .slice none 0 0] 37)
  have Tk := boxA_new w2 #[.int .u8 1, .string T, .int .i64 i, .slice none 0 0, .slice none 0 0] 37
  have st : w2.heap.size < (w2.alloc (.cells #[.int .u8 1, .string T, .int .i64 i, .slice none 0 0, .slice none 0 0] 37)).heap.size := by simp
  have t1 := Tk.cell 1 rfl
  go_wp2_with fail
  generalize hA : w2.alloc (.cells #[.int .u8 1, .string T, .int .i64 i, .slice none 0 0, .slice none 0 0] 37) = w3 at *
  clear hA t1
  refine (parse_rat T _).mono ?_
  intro e w4 hp
  obtain ⟨bK, nk, dk, ek, HK, k4, z1, i1, z2, i2, rfl, r1, r2⟩ := hp.spec
  clear hp
  have HE : Hid (ne T = ek) := HNE.out _ _ _ _ _ HK.out
  clear HNE
  have s4 := k4.size
  have K := nvar_new (b := bK) r1 r2
  have kK := below_alloc w4 (.cells #[.bool bK, .slice z1 nk.length i1, .slice z2 dk.length i2] 42)
  have sK := kK.size
  by_cases h0 : ek = 0
  · have he0 : (ek == 0) = true := by rw [beq_iff_eq]; exact h0
    obtain ⟨K0, K1, K2⟩ := K.cells
    go_wp2_with fail
    clear K0 K1 K2 r1 r2
    generalize hA : w4.alloc (.cells #[.bool bK, .slice z1 nk.length i1, .slice z2 dk.length i2] 42) = w5 at *
    clear hA
    have hA := arrRat_any (b := bK) K.rn K.rd
    have HSP : Hid (TextSpec T bK nk dk 0) := by have := HK.out; rw [h0] at this; exact this
    refine (hA.mono (fun e w' h => (show ∃ k, e = .returned (.agg #[.slice none 0 0, .slice (some ⟨k, 0, none⟩) 1 1]) ∧ TA w5.heap.size w' none 0 0 (some ⟨k, 0, none⟩) 1 1 (na T) ∧ Below w5.heap.size w5 w' from h.elim (fun h => by obtain ⟨hr, k, e1, e2, e3⟩ := h; exact ⟨k, e1, by rw [((HNA.out T bK nk dk HSP.out).1 hr)]; exact e2.ta, e3⟩) (fun h => by obtain ⟨hr, k, e1, e2, e3⟩ := h; exact ⟨k, e1, by rw [((HNA.out T bK nk dk HSP.out).2 hr)]; exact e2.ta, e3⟩)))).mono ?_
    clear hA
    rintro e w6 ⟨k, rfl, hTA, k6⟩
    have HTA : Hid (TA w5.heap.size w6 none 0 0 (some ⟨k, 0, none⟩) 1 1 (na T)) := hTA
    clear hTA HSP HNA
    have s6 := k6.size
    have t6 : Below w3.heap.size w3 w6 := (k4.trans (kK.mono s4)).trans (k6.mono (by omega))
    have Tk6 := Tk.below t6 (by omega)
    have q3 := Tk6.cell 3 rfl
    have q4 := Tk6.cell 4 rfl
    have f3 := Tk6.frozen 3
    have f4 := Tk6.frozen 4
    have Tk7 := Tk6.set34 (.slice none 0 0) (.slice (some ⟨k, 0, none⟩) 1 1)
    have m0 := Tk7.cell 0 rfl
    have m1 := Tk7.cell 1 rfl
    have m2 := Tk7.cell 2 rfl
    have m3 := Tk7.cell 3 rfl
    have m4 := Tk7.cell 4 rfl
    have T6 : Below w.heap.size w w6 := (((k0.trans (k2.mono (by omega))).trans (kt.mono (by omega))).trans (t6.mono (by omega)))
    have R6 := ((R.below k2 s0).below kt (by omega)).below t6 (by omega)
    have hRT : w2.heap.size ≠ w.heap.size := by omega
    have R7 := (R6.other (p := ⟨w2.heap.size, 3, none⟩) hRT (.slice none 0 0)).other (p := ⟨w2.heap.size, 4, none⟩) hRT (.slice (some ⟨k, 0, none⟩) 1 1)
    have cc0 := R7.cell 0 rfl
    have cc1 := R7.cell 1 rfl
    have cc2 := R7.cell 2 rfl
    have cc3 := R7.cell 3 rfl
    have cc4 := R7.cell 4 rfl
    have ccf0 := R7.frozen 0
    have ccf1 := R7.frozen 1
    have ccf2 := R7.frozen 2
    have ccf3 := R7.frozen 3
    have ccf4 := R7.frozen 4
    go_wp2
    have R8 := R7.set5 (.int .u8 1) (.string T) (.int .i64 i) (.slice none 0 0) (.slice (some ⟨k, 0, none⟩) 1 1)
    have x0 := R8.cell 0 rfl
    have x1 := R8.cell 1 rfl
    have x2 := R8.cell 2 rfl
    have x3 := R8.cell 3 rfl
    have x4 := R8.cell 4 rfl
    refine bodyPost_ret (v := .tuple #[.agg #[.int .u8 1, .string T, .int .i64 i, .slice none 0 0, .slice (some ⟨k, 0, none⟩) 1 1], .int .i64 j, .int .i64 0]) (by simp [results, Tryz.results31, go_sem, x0, x1, x2, x3, x4]) rfl ?_
    refine Or.inl ⟨by dsimp only; rw [HJ.out, HTc.out, HE.out]; exact h0, none, 0, 0, some ⟨k, 0, none⟩, 1, 1, by dsimp only; rw [HJ.out, HTc.out], (by dsimp only; rw [HJ.out, HTc.out]; unfold arrF; rw [if_pos rfl]; exact (((((((HTA.out.set ⟨w2.heap.size, 3, none⟩ (show w2.heap.size < w5.heap.size by omega) _).set ⟨w2.heap.size, 4, none⟩ (show w2.heap.size < w5.heap.size by omega) _).set ⟨w.heap.size, 0, none⟩ (show w.heap.size < w5.heap.size by omega) _).set ⟨w.heap.size, 1, none⟩ (show w.heap.size < w5.heap.size by omega) _).set ⟨w.heap.size, 2, none⟩ (show w.heap.size < w5.heap.size by omega) _).set ⟨w.heap.size, 3, none⟩ (show w.heap.size < w5.heap.size by omega) _).set ⟨w.heap.size, 4, none⟩ (show w.heap.size < w5.heap.size by omega) _).mono (by omega)), ?_⟩
    exact Below.set5 ((T6.setCell (p := ⟨w2.heap.size, 3, none⟩) (show w.heap.size ≤ w2.heap.size by omega) _).setCell (p := ⟨w2.heap.size, 4, none⟩) (show w.heap.size ≤ w2.heap.size by omega) _) (Nat.le_refl _) _ _ _ _ _
  · have he0 : (ek == 0) = false := by rw [beq_eq_false_iff_ne]; exact h0
    have t6 : Below w3.heap.size w3 _ := k4.trans (kK.mono s4)
    have T6 : Below w.heap.size w _ := (((k0.trans (k2.mono (by omega))).trans (kt.mono (by omega))).trans (t6.mono (by omega)))
    have R7 := ((R.below k2 s0).below kt (by omega)).below t6 (by omega)
    have cc0 := R7.cell 0 rfl
    have cc1 := R7.cell 1 rfl
    have cc2 := R7.cell 2 rfl
    have cc3 := R7.cell 3 rfl
    have cc4 := R7.cell 4 rfl
    have ccf0 := R7.frozen 0
    have ccf1 := R7.frozen 1
    have ccf2 := R7.frozen 2
    have ccf3 := R7.frozen 3
    have ccf4 := R7.frozen 4
    go_wp2
    have R8 := R7.set5 (.int .u8 0) (.string ⟨#[]⟩) (.int .i64 0) (.slice none 0 0) (.slice none 0 0)
    have x0 := R8.cell 0 rfl
    have x1 := R8.cell 1 rfl
    have x2 := R8.cell 2 rfl
    have x3 := R8.cell 3 rfl
    have x4 := R8.cell 4 rfl
    refine bodyPost_ret (v := .tuple #[.agg #[.int .u8 0, .string ⟨#[]⟩, .int .i64 0, .slice none 0 0, .slice none 0 0], .int .i64 0, .int .i64 ek]) (by simp [results, Tryz.results31, go_sem, x0, x1, x2, x3, x4]) rfl ?_
    refine Or.inr ⟨by dsimp only; rw [HJ.out, HTc.out, HE.out]; exact h0, by dsimp only; rw [HJ.out, HTc.out, HE.out], Below.set5 T6 (Nat.le_refl _) _ _ _ _ _⟩


set_option maxRecDepth 100000 in
set_option maxHeartbeats 16000000 in
theorem next_anyA (hne : TellsErr ne) (hna : TellsArr na) (i : Nat) (hi : i < cs.length) (hl : cs.length ≤ 1024) (hk : cs.length ≤ cap) (hcap : cap ≤ 9223372036854775807) (hc : ∀ m, m < cs.length → w.cell? ⟨b, off + m, none⟩ = some (.int .i32 (cs.getD m 0))) (hlt : b < w.heap.size) (hok : ∀ c ∈ cs, okRune c) :
    Calls Tryz.prog 19 #[.slice (some ⟨b, off, none⟩) cs.length cap, .int .i64 i] w fun e w' => TokIsA na w cs i (nextF ne cs i) e w' := by
  have HNE : Hid (TellsErr ne) := hne
  have HNA : Hid (TellsArr na) := hna
  have HOK : Hid (∀ c ∈ cs, okRune c) := hok
  have hleL := runEnd_le lt cs (i + 1) (by omega)
  clear hne hna hok
  have k0 := below_alloc w (.cells #[.int .u8 0, .string ⟨#[]⟩, .int .i64 0, .slice none 0 0, .slice none 0 0] 37)
  have R := boxA_new w #[.int .u8 0, .string ⟨#[]⟩, .int .i64 0, .slice none 0 0, .slice none 0 0] 37
  have s0 : w.heap.size < (w.alloc (.cells #[.int .u8 0, .string ⟨#[]⟩, .int .i64 0, .slice none 0 0, .slice none 0 0] 37)).heap.size := by simp
  have HC : Hid (∀ m, m < cs.length → (w.alloc (.cells #[.int .u8 0, .string ⟨#[]⟩, .int .i64 0, .slice none 0 0, .slice none 0 0] 37)).cell? ⟨b, off + m, none⟩ = some (.int .i32 (cs.getD m 0))) := fun m hm => (k0.cell (p := ⟨b, off + m, none⟩) hlt).trans (hc m hm)
  have hc0 := HC.out i hi
  clear hc
  obtain ⟨C, hC⟩ : ∃ C, cs.getD i 0 = C := ⟨_, rfl⟩
  have HCC : Hid (cs.getD i 0 = C) := hC
  rw [hC] at hc0
  clear hC
  go_enter Tryz.func19, Tryz.ntmps19
  go_upto_region 2 with fail
  go_cut [13] from 14 to 19 (fun q wx => q = .bool (decide (C = 175) || dg C) ∧ wx = w.alloc (.cells #[.int .u8 0, .string ⟨#[]⟩, .int .i64 0, .slice none 0 0, .slice none 0 0] 37))
  case first =>
    by_cases h175 : C = 175
    · have e1 : (C == 175) = true := by rw [beq_iff_eq]; exact h175
      have HD : Hid ((decide (C = 175) || dg C) = true) := by unfold Hid; rw [decide_eq_true h175]; rfl
      clear h175
      go_wp2_with fail
      go_meet
      exact ⟨by rw [HD.out], rfl⟩
    · have e1 : (C == 175) = false := by rw [beq_eq_false_iff_ne]; exact h175
      have HD : Hid ((decide (C = 175) || dg C) = dg C) := by unfold Hid; rw [decide_eq_false h175]; rfl
      clear h175
      go_wp2_with fail
      refine (isDigit_any C _).mono ?_
      rintro e w' ⟨rfl, rfl⟩
      generalize dg C = D at *
      go_wp2_with fail
      go_meet
      exact ⟨by rw [HD.out], rfl⟩
  case rest =>
    obtain ⟨rfl, rfl⟩ := hcut
    generalize hA : w.alloc (.cells #[.int .u8 0, .string ⟨#[]⟩, .int .i64 0, .slice none 0 0, .slice none 0 0] 37) = v at *
    clear hA
    by_cases hnum : (decide (C = 175) || dg C) = true
    · have HF : Hid (nextF ne cs i = (1, runEnd inn cs (i + 1), ne (cutText cs i (runEnd inn cs (i + 1))))) := by
        unfold Hid nextF
        rw [HCC.out, if_pos (by simpa using hnum)]
      rw [hnum]
      clear hnum
      go_wp2_with fail
      have hT := numberAt_anyA HNE.out HNA.out i hi hk hcap HC.out (show b < v.heap.size by omega)
      refine (hT.mono (fun e w' h => (show TokIsA na v cs i (nextF ne cs i) e w' from by rw [HF.out]; exact h))).mono ?_
      clear hT HF
      rintro e w1 (⟨hX0, a1, n1, c1, a2, n2, c2, rfl, hTA, k1⟩ | ⟨hX0, rfl, k1⟩)
      · have HX0 : Hid ((nextF ne cs i).2.2 = 0) := hX0
        have HTA : Hid (TA _ w1 a1 n1 c1 a2 n2 c2 (arrF na (nextF ne cs i).1 (cutText cs i (nextF ne cs i).2.1))) := hTA
        clear hTA
        obtain ⟨T, hTT⟩ : ∃ T, cutText cs i (nextF ne cs i).2.1 = T := ⟨_, rfl⟩
        have HTc : Hid (cutText cs i (nextF ne cs i).2.1 = T) := hTT
        rw [hTT]
        clear hTT hX0
        obtain ⟨KD, hKD⟩ : ∃ KD, (nextF ne cs i).1 = KD := ⟨_, rfl⟩
        have HKD : Hid ((nextF ne cs i).1 = KD) := hKD
        obtain ⟨J, hJ⟩ : ∃ J, (nextF ne cs i).2.1 = J := ⟨_, rfl⟩
        have HJ : Hid ((nextF ne cs i).2.1 = J) := hJ
        rw [hKD, hJ]
        clear hKD hJ
        have R7 := R.below k1 s0
        have cc0 := R7.cell 0 rfl
        have cc1 := R7.cell 1 rfl
        have cc2 := R7.cell 2 rfl
        have cc3 := R7.cell 3 rfl
        have cc4 := R7.cell 4 rfl
        have ccf0 := R7.frozen 0
        have ccf1 := R7.frozen 1
        have ccf2 := R7.frozen 2
        have ccf3 := R7.frozen 3
        have ccf4 := R7.frozen 4
        go_wp2
        have R8 := R7.set5 (.int .u8 KD) (.string T) (.int .i64 i) (.slice a1 n1 c1) (.slice a2 n2 c2)
        have x0 := R8.cell 0 rfl
        have x1 := R8.cell 1 rfl
        have x2 := R8.cell 2 rfl
        have x3 := R8.cell 3 rfl
        have x4 := R8.cell 4 rfl
        refine bodyPost_ret (v := .tuple #[.agg #[.int .u8 KD, .string T, .int .i64 i, .slice a1 n1 c1, .slice a2 n2 c2], .int .i64 J, .int .i64 0]) (by simp [results, Tryz.results19, go_sem, x0, x1, x2, x3, x4]) rfl ?_
        exact Or.inl ⟨HX0.out, a1, n1, c1, a2, n2, c2, by rw [HTc.out, HKD.out, HJ.out], (((((HTA.out.set ⟨w.heap.size, 0, none⟩ (by dsimp only; omega) _).set ⟨w.heap.size, 1, none⟩ (by dsimp only; omega) _).set ⟨w.heap.size, 2, none⟩ (by dsimp only; omega) _).set ⟨w.heap.size, 3, none⟩ (by dsimp only; omega) _).set ⟨w.heap.size, 4, none⟩ (by dsimp only; omega) _).mono (by omega), Below.set5 (k0.trans (k1.mono (by omega))) (Nat.le_refl _) _ _ _ _ _⟩
      · have HX0 : Hid (¬ (nextF ne cs i).2.2 = 0) := hX0
        obtain ⟨E, hE⟩ : ∃ E, (nextF ne cs i).2.2 = E := ⟨_, rfl⟩
        have HE : Hid ((nextF ne cs i).2.2 = E) := hE
        rw [hE]
        clear hE hX0
        have R7 := R.below k1 s0
        have cc0 := R7.cell 0 rfl
        have cc1 := R7.cell 1 rfl
        have cc2 := R7.cell 2 rfl
        have cc3 := R7.cell 3 rfl
        have cc4 := R7.cell 4 rfl
        have ccf0 := R7.frozen 0
        have ccf1 := R7.frozen 1
        have ccf2 := R7.frozen 2
        have ccf3 := R7.frozen 3
        have ccf4 := R7.frozen 4
        go_wp2
        have R8 := R7.set5 (.int .u8 0) (.string ⟨#[]⟩) (.int .i64 0) (.slice none 0 0) (.slice none 0 0)
        have x0 := R8.cell 0 rfl
        have x1 := R8.cell 1 rfl
        have x2 := R8.cell 2 rfl
        have x3 := R8.cell 3 rfl
        have x4 := R8.cell 4 rfl
        refine bodyPost_ret (v := .tuple #[.agg #[.int .u8 0, .string ⟨#[]⟩, .int .i64 0, .slice none 0 0, .slice none 0 0], .int .i64 0, .int .i64 E]) (by simp [results, Tryz.results19, go_sem, x0, x1, x2, x3, x4]) rfl ?_
        exact Or.inr ⟨HX0.out, by rw [HE.out], Below.set5 (k0.trans (k1.mono (by omega))) (Nat.le_refl _) _ _ _ _ _⟩
    have hnf : (decide (C = 175) || dg C) = false := by simpa using hnum
    have HF0 : Hid (¬ (C = 175 ∨ dg C = true)) := by unfold Hid; simpa using hnum
    rw [hnf]
    clear hnf hnum
    by_cases h39 : C = 39
    · have e1 : (C == 39) = true := by rw [beq_iff_eq]; exact h39
      have HF : Hid (nextF ne cs i = (match qscan cs cs.length (i + 1) [] with | some p => (2, p.2, 0) | none => (0, 0, 26))) := by
        unfold Hid nextF
        rw [HCC.out, if_neg HF0.out, if_pos h39]
        cases qscan cs cs.length (i + 1) [] <;> rfl
      clear h39
      go_wp2_with fail
      have hT := textAt_anyA i hi hl hk hcap HC.out (by omega) HOK.out
      refine (hT.mono (fun e w' h => (show TokIsA na v cs i (nextF ne cs i) e w' from ?_))).mono ?_
      · rw [HF.out]
        rcases h with ⟨acc, j, hq, a1, n1, c1, a2, n2, c2, he, hta, hb⟩ | ⟨hq, he, hb⟩
        · rw [hq]; exact Or.inl ⟨rfl, a1, n1, c1, a2, n2, c2, he, (by dsimp only; rw [arrF_text na HOK.out hi hq]; exact hta), hb⟩
        · rw [hq]; exact Or.inr ⟨by decide, he, hb⟩
      clear hT
      clear HF
      rintro e w1 (⟨hX0, a1, n1, c1, a2, n2, c2, rfl, hTA, k1⟩ | ⟨hX0, rfl, k1⟩)
      · have HX0 : Hid ((nextF ne cs i).2.2 = 0) := hX0
        have HTA : Hid (TA _ w1 a1 n1 c1 a2 n2 c2 (arrF na (nextF ne cs i).1 (cutText cs i (nextF ne cs i).2.1))) := hTA
        clear hTA
        obtain ⟨T, hTT⟩ : ∃ T, cutText cs i (nextF ne cs i).2.1 = T := ⟨_, rfl⟩
        have HTc : Hid (cutText cs i (nextF ne cs i).2.1 = T) := hTT
        rw [hTT]
        clear hTT hX0
        obtain ⟨KD, hKD⟩ : ∃ KD, (nextF ne cs i).1 = KD := ⟨_, rfl⟩
        have HKD : Hid ((nextF ne cs i).1 = KD) := hKD
        obtain ⟨J, hJ⟩ : ∃ J, (nextF ne cs i).2.1 = J := ⟨_, rfl⟩
        have HJ : Hid ((nextF ne cs i).2.1 = J) := hJ
        rw [hKD, hJ]
        clear hKD hJ
        have R7 := R.below k1 s0
        have cc0 := R7.cell 0 rfl
        have cc1 := R7.cell 1 rfl
        have cc2 := R7.cell 2 rfl
        have cc3 := R7.cell 3 rfl
        have cc4 := R7.cell 4 rfl
        have ccf0 := R7.frozen 0
        have ccf1 := R7.frozen 1
        have ccf2 := R7.frozen 2
        have ccf3 := R7.frozen 3
        have ccf4 := R7.frozen 4
        go_wp2
        have R8 := R7.set5 (.int .u8 KD) (.string T) (.int .i64 i) (.slice a1 n1 c1) (.slice a2 n2 c2)
        have x0 := R8.cell 0 rfl
        have x1 := R8.cell 1 rfl
        have x2 := R8.cell 2 rfl
        have x3 := R8.cell 3 rfl
        have x4 := R8.cell 4 rfl
        refine bodyPost_ret (v := .tuple #[.agg #[.int .u8 KD, .string T, .int .i64 i, .slice a1 n1 c1, .slice a2 n2 c2], .int .i64 J, .int .i64 0]) (by simp [results, Tryz.results19, go_sem, x0, x1, x2, x3, x4]) rfl ?_
        exact Or.inl ⟨HX0.out, a1, n1, c1, a2, n2, c2, by rw [HTc.out, HKD.out, HJ.out], (((((HTA.out.set ⟨w.heap.size, 0, none⟩ (by dsimp only; omega) _).set ⟨w.heap.size, 1, none⟩ (by dsimp only; omega) _).set ⟨w.heap.size, 2, none⟩ (by dsimp only; omega) _).set ⟨w.heap.size, 3, none⟩ (by dsimp only; omega) _).set ⟨w.heap.size, 4, none⟩ (by dsimp only; omega) _).mono (by omega), Below.set5 (k0.trans (k1.mono (by omega))) (Nat.le_refl _) _ _ _ _ _⟩
      · have HX0 : Hid (¬ (nextF ne cs i).2.2 = 0) := hX0
        obtain ⟨E, hE⟩ : ∃ E, (nextF ne cs i).2.2 = E := ⟨_, rfl⟩
        have HE : Hid ((nextF ne cs i).2.2 = E) := hE
        rw [hE]
        clear hE hX0
        have R7 := R.below k1 s0
        have cc0 := R7.cell 0 rfl
        have cc1 := R7.cell 1 rfl
        have cc2 := R7.cell 2 rfl
        have cc3 := R7.cell 3 rfl
        have cc4 := R7.cell 4 rfl
        have ccf0 := R7.frozen 0
        have ccf1 := R7.frozen 1
        have ccf2 := R7.frozen 2
        have ccf3 := R7.frozen 3
        have ccf4 := R7.frozen 4
        go_wp2
        have R8 := R7.set5 (.int .u8 0) (.string ⟨#[]⟩) (.int .i64 0) (.slice none 0 0) (.slice none 0 0)
        have x0 := R8.cell 0 rfl
        have x1 := R8.cell 1 rfl
        have x2 := R8.cell 2 rfl
        have x3 := R8.cell 3 rfl
        have x4 := R8.cell 4 rfl
        refine bodyPost_ret (v := .tuple #[.agg #[.int .u8 0, .string ⟨#[]⟩, .int .i64 0, .slice none 0 0, .slice none 0 0], .int .i64 0, .int .i64 E]) (by simp [results, Tryz.results19, go_sem, x0, x1, x2, x3, x4]) rfl ?_
        exact Or.inr ⟨HX0.out, by rw [HE.out], Below.set5 (k0.trans (k1.mono (by omega))) (Nat.le_refl _) _ _ _ _ _⟩
    have e39 : (C == 39) = false := by rw [beq_eq_false_iff_ne]; exact h39
    by_cases hbn : bn C = true
    · have HF : Hid (nextF ne cs i = (if runEnd inm cs i - i ≤ 32 then (3, runEnd inm cs i, 0) else (0, 0, 27))) := by
        unfold Hid nextF
        rw [HCC.out, if_neg HF0.out, if_neg h39, if_pos hbn]
      clear h39
      go_wp2_with fail
      refine (beginsName_any C _).mono ?_
      rintro e w' ⟨rfl, rfl⟩
      rw [hbn]
      go_wp2_with fail
      have hT := nameAt_any i hi hk hcap HC.out (by omega) (by rw [HCC.out]; unfold inm; rw [hbn]; rfl)
      refine (hT.mono (fun e w'' h => (show TokIsA na w' cs i (nextF ne cs i) e w'' from ?_))).mono ?_
      · rw [HF.out]
        rcases h with ⟨h32, he, hb⟩ | ⟨h32, he, hb⟩
        · rw [if_pos h32]; exact Or.inl ⟨rfl, none, 0, 0, none, 0, 0, he, (by dsimp only; rw [arrF_none na (by decide) (by decide)]; exact TA.none _ _), hb⟩
        · rw [if_neg (by omega)]; exact Or.inr ⟨by decide, he, hb⟩
      clear hT
      clear HF hbn
      rintro e w1 (⟨hX0, a1, n1, c1, a2, n2, c2, rfl, hTA, k1⟩ | ⟨hX0, rfl, k1⟩)
      · have HX0 : Hid ((nextF ne cs i).2.2 = 0) := hX0
        have HTA : Hid (TA _ w1 a1 n1 c1 a2 n2 c2 (arrF na (nextF ne cs i).1 (cutText cs i (nextF ne cs i).2.1))) := hTA
        clear hTA
        obtain ⟨T, hTT⟩ : ∃ T, cutText cs i (nextF ne cs i).2.1 = T := ⟨_, rfl⟩
        have HTc : Hid (cutText cs i (nextF ne cs i).2.1 = T) := hTT
        rw [hTT]
        clear hTT hX0
        obtain ⟨KD, hKD⟩ : ∃ KD, (nextF ne cs i).1 = KD := ⟨_, rfl⟩
        have HKD : Hid ((nextF ne cs i).1 = KD) := hKD
        obtain ⟨J, hJ⟩ : ∃ J, (nextF ne cs i).2.1 = J := ⟨_, rfl⟩
        have HJ : Hid ((nextF ne cs i).2.1 = J) := hJ
        rw [hKD, hJ]
        clear hKD hJ
        have R7 := R.below k1 s0
        have cc0 := R7.cell 0 rfl
        have cc1 := R7.cell 1 rfl
        have cc2 := R7.cell 2 rfl
        have cc3 := R7.cell 3 rfl
        have cc4 := R7.cell 4 rfl
        have ccf0 := R7.frozen 0
        have ccf1 := R7.frozen 1
        have ccf2 := R7.frozen 2
        have ccf3 := R7.frozen 3
        have ccf4 := R7.frozen 4
        go_wp2
        have R8 := R7.set5 (.int .u8 KD) (.string T) (.int .i64 i) (.slice a1 n1 c1) (.slice a2 n2 c2)
        have x0 := R8.cell 0 rfl
        have x1 := R8.cell 1 rfl
        have x2 := R8.cell 2 rfl
        have x3 := R8.cell 3 rfl
        have x4 := R8.cell 4 rfl
        refine bodyPost_ret (v := .tuple #[.agg #[.int .u8 KD, .string T, .int .i64 i, .slice a1 n1 c1, .slice a2 n2 c2], .int .i64 J, .int .i64 0]) (by simp [results, Tryz.results19, go_sem, x0, x1, x2, x3, x4]) rfl ?_
        exact Or.inl ⟨HX0.out, a1, n1, c1, a2, n2, c2, by rw [HTc.out, HKD.out, HJ.out], (((((HTA.out.set ⟨w.heap.size, 0, none⟩ (by dsimp only; omega) _).set ⟨w.heap.size, 1, none⟩ (by dsimp only; omega) _).set ⟨w.heap.size, 2, none⟩ (by dsimp only; omega) _).set ⟨w.heap.size, 3, none⟩ (by dsimp only; omega) _).set ⟨w.heap.size, 4, none⟩ (by dsimp only; omega) _).mono (by omega), Below.set5 (k0.trans (k1.mono (by omega))) (Nat.le_refl _) _ _ _ _ _⟩
      · have HX0 : Hid (¬ (nextF ne cs i).2.2 = 0) := hX0
        obtain ⟨E, hE⟩ : ∃ E, (nextF ne cs i).2.2 = E := ⟨_, rfl⟩
        have HE : Hid ((nextF ne cs i).2.2 = E) := hE
        rw [hE]
        clear hE hX0
        have R7 := R.below k1 s0
        have cc0 := R7.cell 0 rfl
        have cc1 := R7.cell 1 rfl
        have cc2 := R7.cell 2 rfl
        have cc3 := R7.cell 3 rfl
        have cc4 := R7.cell 4 rfl
        have ccf0 := R7.frozen 0
        have ccf1 := R7.frozen 1
        have ccf2 := R7.frozen 2
        have ccf3 := R7.frozen 3
        have ccf4 := R7.frozen 4
        go_wp2
        have R8 := R7.set5 (.int .u8 0) (.string ⟨#[]⟩) (.int .i64 0) (.slice none 0 0) (.slice none 0 0)
        have x0 := R8.cell 0 rfl
        have x1 := R8.cell 1 rfl
        have x2 := R8.cell 2 rfl
        have x3 := R8.cell 3 rfl
        have x4 := R8.cell 4 rfl
        refine bodyPost_ret (v := .tuple #[.agg #[.int .u8 0, .string ⟨#[]⟩, .int .i64 0, .slice none 0 0, .slice none 0 0], .int .i64 0, .int .i64 E]) (by simp [results, Tryz.results19, go_sem, x0, x1, x2, x3, x4]) rfl ?_
        exact Or.inr ⟨HX0.out, by rw [HE.out], Below.set5 (k0.trans (k1.mono (by omega))) (Nat.le_refl _) _ _ _ _ _⟩
    have hbf : bn C = false := by simpa using hbn
    by_cases hq : C = 9109
    · have e1 : (C == 9109) = true := by rw [beq_iff_eq]; exact hq
      have HF : Hid (nextF ne cs i = (4, runEnd lt cs (i + 1), 0)) := by
        unfold Hid nextF
        rw [HCC.out, if_neg HF0.out, if_neg h39, if_neg hbn, if_pos hq]
      clear h39 hbn hq
      go_wp2_with fail
      refine (beginsName_any C _).mono ?_
      rintro e w' ⟨rfl, rfl⟩
      rw [hbf]
      have hR : RdR w'.heap.size w' (.slice (some ⟨b, off, none⟩) cs.length cap) cs := ⟨_, cap, rfl, hk, hcap, Or.inr ⟨b, off, rfl, by omega, HC.out⟩⟩
      go_wp2_with fail
      refine (run_letter hR (i + 1) (by omega)).mono ?_
      rintro e w1 ⟨rfl, rfl⟩
      obtain ⟨j, hj⟩ : ∃ j, runEnd lt cs (i + 1) = j := ⟨_, rfl⟩
      rw [hj] at HF hleL ⊢
      clear hj
      go_wp2_with fail
      refine (piece_any 4 i j (by omega) hleL.2 hk hcap HC.out (by omega)).mono ?_
      rintro e w2 ⟨rfl, k2⟩
      obtain ⟨T, hTT⟩ : ∃ T, cutText cs i j = T := ⟨_, rfl⟩
      have HTc : Hid (cutText cs i j = T) := hTT
      rw [hTT]
      clear hTT
      have R7 := R.below k2 (by omega)
      have cc0 := R7.cell 0 rfl
      have cc1 := R7.cell 1 rfl
      have cc2 := R7.cell 2 rfl
      have cc3 := R7.cell 3 rfl
      have cc4 := R7.cell 4 rfl
      have ccf0 := R7.frozen 0
      have ccf1 := R7.frozen 1
      have ccf2 := R7.frozen 2
      have ccf3 := R7.frozen 3
      have ccf4 := R7.frozen 4
      go_wp2
      have R8 := R7.set5 (.int .u8 4) (.string T) (.int .i64 i) (.slice none 0 0) (.slice none 0 0)
      have x0 := R8.cell 0 rfl
      have x1 := R8.cell 1 rfl
      have x2 := R8.cell 2 rfl
      have x3 := R8.cell 3 rfl
      have x4 := R8.cell 4 rfl
      refine bodyPost_ret (v := .tuple #[.agg #[.int .u8 4, .string T, .int .i64 i, .slice none 0 0, .slice none 0 0], .int .i64 j, .int .i64 0]) (by simp [results, Tryz.results19, go_sem, x0, x1, x2, x3, x4]) rfl ?_
      rw [HF.out]
      exact Or.inl ⟨rfl, none, 0, 0, none, 0, 0, by dsimp only; rw [HTc.out] <;> rfl, (by dsimp only; rw [arrF_none na (by decide) (by decide)]; exact TA.none _ _), Below.set5 (k0.trans (k2.mono (by omega))) (Nat.le_refl _) _ _ _ _ _⟩
    have e9 : (C == 9109) = false := by rw [beq_eq_false_iff_ne]; exact hq
    go_wp2_with fail
    refine (beginsName_any C _).mono ?_
    rintro e w' ⟨rfl, rfl⟩
    rw [hbf]
    go_wp2_with fail
    refine (isPrimitive_any C _).mono ?_
    rintro e w1 ⟨rfl, k1⟩
    have R1 := R.below k1 s0
    have s1 := k1.size
    have HC1 : Hid (∀ m, m < cs.length → w1.cell? ⟨b, off + m, none⟩ = some (.int .i32 (cs.getD m 0))) := fun m hm => (k1.cell (p := ⟨b, off + m, none⟩) (show b < w'.heap.size by omega)).trans (HC.out m hm)
    by_cases hp : C ∈ decs prims prims.size 0
    · have HF : Hid (nextF ne cs i = (5, i + 1, 0)) := by
        unfold Hid nextF
        rw [HCC.out, if_neg HF0.out, if_neg h39, if_neg hbn, if_neg hq, if_pos hp]
      rw [decide_eq_true hp]
      clear h39 hbn hq hp
      go_wp2_with fail
      refine (piece_any 5 i (i + 1) (by omega) (by omega) hk hcap HC1.out (by omega)).mono ?_
      rintro e w2 ⟨rfl, k2⟩
      obtain ⟨T, hTT⟩ : ∃ T, cutText cs i (i + 1) = T := ⟨_, rfl⟩
      have HTc : Hid (cutText cs i (i + 1) = T) := hTT
      rw [hTT]
      clear hTT
      have R7 := R1.below k2 (by omega)
      have cc0 := R7.cell 0 rfl
      have cc1 := R7.cell 1 rfl
      have cc2 := R7.cell 2 rfl
      have cc3 := R7.cell 3 rfl
      have cc4 := R7.cell 4 rfl
      have ccf0 := R7.frozen 0
      have ccf1 := R7.frozen 1
      have ccf2 := R7.frozen 2
      have ccf3 := R7.frozen 3
      have ccf4 := R7.frozen 4
      go_wp2
      have R8 := R7.set5 (.int .u8 5) (.string T) (.int .i64 i) (.slice none 0 0) (.slice none 0 0)
      have x0 := R8.cell 0 rfl
      have x1 := R8.cell 1 rfl
      have x2 := R8.cell 2 rfl
      have x3 := R8.cell 3 rfl
      have x4 := R8.cell 4 rfl
      refine bodyPost_ret (v := .tuple #[.agg #[.int .u8 5, .string T, .int .i64 i, .slice none 0 0, .slice none 0 0], .int .i64 ((i : Int) + 1), .int .i64 0]) (by simp [results, Tryz.results19, go_sem, x0, x1, x2, x3, x4]) rfl ?_
      rw [HF.out]
      exact Or.inl ⟨rfl, none, 0, 0, none, 0, 0, by dsimp only; rw [HTc.out] <;> rfl, (by dsimp only; rw [arrF_none na (by decide) (by decide)]; exact TA.none _ _), Below.set5 ((k0.trans (k1.mono (by omega))).trans (k2.mono (by omega))) (Nat.le_refl _) _ _ _ _ _⟩
    rw [decide_eq_false hp]
    go_wp2_with fail
    refine (isAmong_any sgns C _).mono ?_
    rintro e w3 ⟨rfl, k3⟩
    have R3 := R1.below k3 (by omega)
    have s3 := k3.size
    have HC3 : Hid (∀ m, m < cs.length → w3.cell? ⟨b, off + m, none⟩ = some (.int .i32 (cs.getD m 0))) := fun m hm => (k3.cell (p := ⟨b, off + m, none⟩) (show b < w1.heap.size by omega)).trans (HC1.out m hm)
    by_cases hs : C ∈ decs sgns sgns.size 0
    · have HF : Hid (nextF ne cs i = (6, i + 1, 0)) := by
        unfold Hid nextF
        rw [HCC.out, if_neg HF0.out, if_neg h39, if_neg hbn, if_neg hq, if_neg hp, if_pos hs]
      rw [decide_eq_true hs]
      clear h39 hbn hq hp hs
      go_wp2_with fail
      refine (piece_any 6 i (i + 1) (by omega) (by omega) hk hcap HC3.out (by omega)).mono ?_
      rintro e w2 ⟨rfl, k2⟩
      obtain ⟨T, hTT⟩ : ∃ T, cutText cs i (i + 1) = T := ⟨_, rfl⟩
      have HTc : Hid (cutText cs i (i + 1) = T) := hTT
      rw [hTT]
      clear hTT
      have R7 := R3.below k2 (by omega)
      have cc0 := R7.cell 0 rfl
      have cc1 := R7.cell 1 rfl
      have cc2 := R7.cell 2 rfl
      have cc3 := R7.cell 3 rfl
      have cc4 := R7.cell 4 rfl
      have ccf0 := R7.frozen 0
      have ccf1 := R7.frozen 1
      have ccf2 := R7.frozen 2
      have ccf3 := R7.frozen 3
      have ccf4 := R7.frozen 4
      go_wp2
      have R8 := R7.set5 (.int .u8 6) (.string T) (.int .i64 i) (.slice none 0 0) (.slice none 0 0)
      have x0 := R8.cell 0 rfl
      have x1 := R8.cell 1 rfl
      have x2 := R8.cell 2 rfl
      have x3 := R8.cell 3 rfl
      have x4 := R8.cell 4 rfl
      refine bodyPost_ret (v := .tuple #[.agg #[.int .u8 6, .string T, .int .i64 i, .slice none 0 0, .slice none 0 0], .int .i64 ((i : Int) + 1), .int .i64 0]) (by simp [results, Tryz.results19, go_sem, x0, x1, x2, x3, x4]) rfl ?_
      rw [HF.out]
      exact Or.inl ⟨rfl, none, 0, 0, none, 0, 0, by dsimp only; rw [HTc.out] <;> rfl, (by dsimp only; rw [arrF_none na (by decide) (by decide)]; exact TA.none _ _), Below.set5 (((k0.trans (k1.mono (by omega))).trans (k3.mono (by omega))).trans (k2.mono (by omega))) (Nat.le_refl _) _ _ _ _ _⟩
    have HF : Hid (nextF ne cs i = (0, 0, 26)) := by
      unfold Hid nextF
      rw [HCC.out, if_neg HF0.out, if_neg h39, if_neg hbn, if_neg hq, if_neg hp, if_neg hs]
    rw [decide_eq_false hs]
    clear h39 hbn hq hp hs
    have cc0 := R3.cell 0 rfl
    have cc1 := R3.cell 1 rfl
    have cc2 := R3.cell 2 rfl
    have cc3 := R3.cell 3 rfl
    have cc4 := R3.cell 4 rfl
    have ccf0 := R3.frozen 0
    have ccf1 := R3.frozen 1
    have ccf2 := R3.frozen 2
    have ccf3 := R3.frozen 3
    have ccf4 := R3.frozen 4
    go_wp2
    have R8 := R3.set5 (.int .u8 0) (.string ⟨#[]⟩) (.int .i64 0) (.slice none 0 0) (.slice none 0 0)
    have x0 := R8.cell 0 rfl
    have x1 := R8.cell 1 rfl
    have x2 := R8.cell 2 rfl
    have x3 := R8.cell 3 rfl
    have x4 := R8.cell 4 rfl
    refine bodyPost_ret (v := .tuple #[.agg #[.int .u8 0, .string ⟨#[]⟩, .int .i64 0, .slice none 0 0, .slice none 0 0], .int .i64 0, .int .i64 26]) (by simp [results, Tryz.results19, go_sem, x0, x1, x2, x3, x4]) rfl ?_
    rw [HF.out]
    exact Or.inr ⟨by decide, rfl, Below.set5 ((k0.trans (k1.mono (by omega))).trans (k3.mono (by omega))) (Nat.le_refl _) _ _ _ _ _⟩
end
end Go.Proofs.YthfmicokddcglaaGreatDoor
