/- lex.next from any place: what the token there is. -/
import Derived.Test.YtimfnalpmmkndaaGreatDoorL2
import Derived.Test.YtimfnalpmmkndaaGreatDoorL1
import Derived.Test.YtimfnalpmmkndaaGreatDoorShelf
import Derived.Lib.MapLaws
import Derived.Lib.QuoteLoop
import Derived.Lib.TrimUEq
namespace Go.Proofs.YtimfnalpmmkndaaGreatDoor
set_option linter.unusedVariables false
set_option linter.unusedSimpArgs false
open Go.RowKit Go.Shelf

def prims : ByteArray := ⟨#[43, 45, 195, 151, 195, 183, 226, 140, 136, 226, 140, 138, 124, 42, 33, 126, 60, 226, 137, 164, 61, 226, 137, 165, 62, 226, 137, 160, 226, 136, 167, 226, 136, 168, 226, 141, 178, 226, 141, 177, 226, 141, 180, 44, 226, 141, 170, 226, 134, 145, 226, 134, 147, 226, 140, 189, 226, 138, 150, 226, 141, 137, 47, 226, 140, 191, 92, 226, 141, 128, 226, 141, 179, 226, 136, 138, 226, 141, 139, 226, 141, 146, 226, 136, 170, 226, 138, 130, 226, 138, 131, 226, 137, 161, 226, 137, 162, 226, 138, 164, 226, 138, 165, 226, 140, 183, 226, 141, 142, 226, 141, 149, 194, 168, 226, 136, 152, 46, 226, 141, 168]⟩
def sgns : ByteArray := ⟨#[40, 41, 91, 93, 59, 123, 125, 226, 134, 144, 226, 134, 146, 226, 139, 132, 58, 226, 136, 135, 226, 141, 186, 226, 141, 181]⟩
def TellsErr (ne : ByteArray → Int) : Prop := ∀ T b ns ds e, TextSpec T b ns ds e → ne T = e
theorem tellsErr_ex : ∃ ne, TellsErr ne := by
 have h : ∀ T : ByteArray, ∃ e : Int, ∀ b ns ds f, TextSpec T b ns ds f → e = f := fun T => by
  by_cases hx : ∃ e b ns ds, TextSpec T b ns ds e
  · obtain ⟨e, b, ns, ds, h⟩ := hx
    exact ⟨e, fun b' ns' ds' f h' => ((h.unique h').2.2.2).symm⟩
  · exact ⟨0, fun b ns ds f h => absurd ⟨f, b, ns, ds, h⟩ hx⟩
 exact ⟨fun T => Classical.choose (h T), fun T b ns ds e he => Classical.choose_spec (h T) b ns ds e he⟩
def nextF (ne : ByteArray → Int) (cs : List Int) (i : Nat) : Int × Nat × Int :=
 if cs.getD i 0 = 175 ∨ dg (cs.getD i 0) = true then (1, runEnd inn cs (i + 1), ne (cutText cs i (runEnd inn cs (i + 1))))
 else if cs.getD i 0 = 39 then (match qscan cs cs.length (i + 1) [] with | some p => (2, p.2, 0) | none => (0, 0, 26))
 else if bn (cs.getD i 0) = true then (if runEnd inm cs i - i ≤ 32 then (3, runEnd inm cs i, 0) else (0, 0, 27))
 else if cs.getD i 0 = 9109 then (4, runEnd lt cs (i + 1), 0)
 else if cs.getD i 0 ∈ decs prims prims.size 0 then (5, i + 1, 0)
 else if cs.getD i 0 ∈ decs sgns sgns.size 0 then (6, i + 1, 0) else (0, 0, 26)
def TokIs (w : World) (cs : List Int) (i : Nat) (r : Int × Nat × Int) (e : Ending) (w' : World) : Prop :=
 (r.2.2 = 0 ∧ ∃ a1 n1 c1 a2 n2 c2, e = .returned (.tuple #[.agg #[.int .u8 r.1, .string (cutText cs i r.2.1), .int .i64 i, .slice a1 n1 c1, .slice a2 n2 c2], .int .i64 r.2.1, .int .i64 0]) ∧ Below w.heap.size w w') ∨
 (¬ r.2.2 = 0 ∧ e = .returned (.tuple #[.agg #[.int .u8 0, .string ⟨#[]⟩, .int .i64 0, .slice none 0 0, .slice none 0 0], .int .i64 0, .int .i64 r.2.2]) ∧ Below w.heap.size w w')

section
variable {w : World} {cs : List Int} {b off cap : Nat} {ne : ByteArray → Int}
set_option maxRecDepth 100000 in
set_option maxHeartbeats 16000000 in
theorem numberAt_any (hne : TellsErr ne) (i : Nat) (hi : i < cs.length) (hk : cs.length ≤ cap) (hcap : cap ≤ 9223372036854775807) (hc : ∀ m, m < cs.length → w.cell? ⟨b, off + m, none⟩ = some (.int .i32 (cs.getD m 0))) (hlt : b < w.heap.size) :
    Calls Tryz.prog 184 #[.slice (some ⟨b, off, none⟩) cs.length cap, .int .i64 i] w fun e w' => TokIs w cs i (1, runEnd inn cs (i + 1), ne (cutText cs i (runEnd inn cs (i + 1)))) e w' := by
 have hle := runEnd_le inn cs (i + 1) (by omega)
 have k0 := below_alloc w (.cells #[.int .u8 0, .string ⟨#[]⟩, .int .i64 0, .slice none 0 0, .slice none 0 0] 151)
 have R := boxA_new w #[.int .u8 0, .string ⟨#[]⟩, .int .i64 0, .slice none 0 0, .slice none 0 0] 151
 have s0 : w.heap.size < (w.alloc (.cells #[.int .u8 0, .string ⟨#[]⟩, .int .i64 0, .slice none 0 0, .slice none 0 0] 151)).heap.size := by simp
 have HC : Hid (∀ m, m < cs.length → (w.alloc (.cells #[.int .u8 0, .string ⟨#[]⟩, .int .i64 0, .slice none 0 0, .slice none 0 0] 151)).cell? ⟨b, off + m, none⟩ = some (.int .i32 (cs.getD m 0))) := fun m hm => (k0.cell (p := ⟨b, off + m, none⟩) hlt).trans (hc m hm)
 have HNE : Hid (TellsErr ne) := hne
 clear hc hne
 go_enter Tryz.func184, Tryz.ntmps184
 go_wp2_with fail
 generalize hA : w.alloc (.cells #[.int .u8 0, .string ⟨#[]⟩, .int .i64 0, .slice none 0 0, .slice none 0 0] 151) = v at *
 clear hA
 have hR : RdR v.heap.size v (.slice (some ⟨b, off, none⟩) cs.length cap) cs := ⟨_, cap, rfl, hk, hcap, Or.inr ⟨b, off, rfl, by omega, HC.out⟩⟩
 refine (run_number hR (i + 1) (by omega)).mono ?_
 rintro e w1 ⟨rfl, rfl⟩
 obtain ⟨j, hj⟩ : ∃ j, runEnd inn cs (i + 1) = j := ⟨_, rfl⟩
 have HJ : Hid (runEnd inn cs (i + 1) = j) := hj
 rw [hj] at hle ⊢
 clear hj
 go_wp2_with fail
 refine (piece_any 1 i j (by omega) hle.2 hk hcap HC.out (by omega)).mono ?_
 rintro e w2 ⟨rfl, k2⟩
 obtain ⟨T, hTT⟩ : ∃ T, cutText cs i j = T := ⟨_, rfl⟩
 have HTc : Hid (cutText cs i j = T) := hTT
 rw [hTT]
 clear hTT HC hR
 have s2 := k2.size
 have kt := below_alloc w2 (.cells #[.int .u8 1, .string T, .int .i64 i, .slice none 0 0, .slice none 0 0] 151)
 have Tk := boxA_new w2 #[.int .u8 1, .string T, .int .i64 i, .slice none 0 0, .slice none 0 0] 151
 have st : w2.heap.size < (w2.alloc (.cells #[.int .u8 1, .string T, .int .i64 i, .slice none 0 0, .slice none 0 0] 151)).heap.size := by simp
 have t1 := Tk.cell 1 rfl
 go_wp2_with fail
 generalize hA : w2.alloc (.cells #[.int .u8 1, .string T, .int .i64 i, .slice none 0 0, .slice none 0 0] 151) = w3 at *
 clear hA t1
 refine (parse_rat T _).mono ?_
 intro e w4 hp
 obtain ⟨bK, nk, dk, ek, HK, k4, z1, i1, z2, i2, rfl, r1, r2⟩ := hp.spec
 clear hp
 have HE : Hid (ne T = ek) := HNE.out _ _ _ _ _ HK.out
 clear HK HNE
 have s4 := k4.size
 have K := nvar_new (b := bK) r1 r2
 have kK := below_alloc w4 (.cells #[.bool bK, .slice z1 nk.length i1, .slice z2 dk.length i2] 110)
 have sK := kK.size
 by_cases h0 : ek = 0
 · have he0 : (ek == 0) = true := by rw [beq_iff_eq]; exact h0
   obtain ⟨K0, K1, K2⟩ := K.cells
   go_wp2_with fail
   clear K0 K1 K2 r1 r2
   generalize hA : w4.alloc (.cells #[.bool bK, .slice z1 nk.length i1, .slice z2 dk.length i2] 110) = w5 at *
   clear hA
   have hA := arrRat_any (b := bK) K.rn K.rd
   refine (hA.mono (fun e w' h => (show ∃ bb mm ee, ScalarAns w5 bb mm ee e w' from h.elim (fun h => ⟨_, _, _, h.2⟩) (fun h => ⟨_, _, _, h.2⟩)))).mono ?_
   clear hA
   rintro e w6 ⟨_, _, _, k, rfl, _, k6⟩
   have s6 := k6.size
   have t6 : Below w3.heap.size w3 w6 := (k4.trans (kK.mono s4)).trans (k6.mono (by omega))
   have Tk6 := Tk.below t6 (by omega)
   have q3 := Tk6.cell 3 rfl
   have q4 := Tk6.cell 4 rfl
   have f3 := Tk6.frozen 3
   have f4 := Tk6.frozen 4
   have Tk7 := Tk6.set34 (.slice none 0 0) (.slice (some ⟨k, 0, none⟩) 1 1)
   have m0 := Tk7.cell 0 rfl
   have m1 := Tk7.cell 1 rfl
   have m2 := Tk7.cell 2 rfl
   have m3 := Tk7.cell 3 rfl
   have m4 := Tk7.cell 4 rfl
   have T6 : Below w.heap.size w w6 := (((k0.trans (k2.mono (by omega))).trans (kt.mono (by omega))).trans (t6.mono (by omega)))
   have R6 := ((R.below k2 s0).below kt (by omega)).below t6 (by omega)
   have hRT : w2.heap.size ≠ w.heap.size := by omega
   have R7 := (R6.other (p := ⟨w2.heap.size, 3, none⟩) hRT (.slice none 0 0)).other (p := ⟨w2.heap.size, 4, none⟩) hRT (.slice (some ⟨k, 0, none⟩) 1 1)
   have cc0 := R7.cell 0 rfl
   have cc1 := R7.cell 1 rfl
   have cc2 := R7.cell 2 rfl
   have cc3 := R7.cell 3 rfl
   have cc4 := R7.cell 4 rfl
   have ccf0 := R7.frozen 0
   have ccf1 := R7.frozen 1
   have ccf2 := R7.frozen 2
   have ccf3 := R7.frozen 3
   have ccf4 := R7.frozen 4
   go_wp2
   have R8 := R7.set5 (.int .u8 1) (.string T) (.int .i64 i) (.slice none 0 0) (.slice (some ⟨k, 0, none⟩) 1 1)
   have x0 := R8.cell 0 rfl
   have x1 := R8.cell 1 rfl
   have x2 := R8.cell 2 rfl
   have x3 := R8.cell 3 rfl
   have x4 := R8.cell 4 rfl
   refine bodyPost_ret (v := .tuple #[.agg #[.int .u8 1, .string T, .int .i64 i, .slice none 0 0, .slice (some ⟨k, 0, none⟩) 1 1], .int .i64 j, .int .i64 0]) (by simp [results, Tryz.results184, go_sem, x0, x1, x2, x3, x4]) rfl ?_
   refine Or.inl ⟨by dsimp only; rw [HJ.out, HTc.out, HE.out]; exact h0, none, 0, 0, some ⟨k, 0, none⟩, 1, 1, by dsimp only; rw [HJ.out, HTc.out], ?_⟩
   exact Below.set5 ((T6.setCell (p := ⟨w2.heap.size, 3, none⟩) (show w.heap.size ≤ w2.heap.size by omega) _).setCell (p := ⟨w2.heap.size, 4, none⟩) (show w.heap.size ≤ w2.heap.size by omega) _) (Nat.le_refl _) _ _ _ _ _
 · have he0 : (ek == 0) = false := by rw [beq_eq_false_iff_ne]; exact h0
   have t6 : Below w3.heap.size w3 _ := k4.trans (kK.mono s4)
   have T6 : Below w.heap.size w _ := (((k0.trans (k2.mono (by omega))).trans (kt.mono (by omega))).trans (t6.mono (by omega)))
   have R7 := ((R.below k2 s0).below kt (by omega)).below t6 (by omega)
   have cc0 := R7.cell 0 rfl
   have cc1 := R7.cell 1 rfl
   have cc2 := R7.cell 2 rfl
   have cc3 := R7.cell 3 rfl
   have cc4 := R7.cell 4 rfl
   have ccf0 := R7.frozen 0
   have ccf1 := R7.frozen 1
   have ccf2 := R7.frozen 2
   have ccf3 := R7.frozen 3
   have ccf4 := R7.frozen 4
   go_wp2
   have R8 := R7.set5 (.int .u8 0) (.string ⟨#[]⟩) (.int .i64 0) (.slice none 0 0) (.slice none 0 0)
   have x0 := R8.cell 0 rfl
   have x1 := R8.cell 1 rfl
   have x2 := R8.cell 2 rfl
   have x3 := R8.cell 3 rfl
   have x4 := R8.cell 4 rfl
   refine bodyPost_ret (v := .tuple #[.agg #[.int .u8 0, .string ⟨#[]⟩, .int .i64 0, .slice none 0 0, .slice none 0 0], .int .i64 0, .int .i64 ek]) (by simp [results, Tryz.results184, go_sem, x0, x1, x2, x3, x4]) rfl ?_
   refine Or.inr ⟨by dsimp only; rw [HJ.out, HTc.out, HE.out]; exact h0, by dsimp only; rw [HJ.out, HTc.out, HE.out], Below.set5 T6 (Nat.le_refl _) _ _ _ _ _⟩


set_option maxRecDepth 100000 in
theorem isPrimitive_any (c : Int) (w : World) : Calls Tryz.prog 190 #[.int .i32 c] w fun e w' => e = .returned (.bool (decide (c ∈ decs prims prims.size 0))) ∧ Below w.heap.size w w' := by
 go_enter Tryz.func190, Tryz.ntmps190
 go_wp2_with fail
 refine (isAmong_any prims c _).mono ?_
 rintro e w' ⟨rfl, hb⟩
 obtain ⟨r, hr⟩ : ∃ r, decide (c ∈ decs prims prims.size 0) = r := ⟨_, rfl⟩
 have HR : Hid (decide (c ∈ decs prims prims.size 0) = r) := hr
 rw [hr]
 clear hr
 go_wp2
 go_ret
 exact ⟨by rw [HR.out]; rfl, hb⟩

set_option maxRecDepth 100000 in
set_option maxHeartbeats 16000000 in
theorem next_any (hne : TellsErr ne) (i : Nat) (hi : i < cs.length) (hl : cs.length ≤ 1000000) (hk : cs.length ≤ cap) (hcap : cap ≤ 9223372036854775807) (hc : ∀ m, m < cs.length → w.cell? ⟨b, off + m, none⟩ = some (.int .i32 (cs.getD m 0))) (hlt : b < w.heap.size) (hok : ∀ c ∈ cs, okRune c) :
    Calls Tryz.prog 158 #[.slice (some ⟨b, off, none⟩) cs.length cap, .int .i64 i] w fun e w' => TokIs w cs i (nextF ne cs i) e w' := by
 have HNE : Hid (TellsErr ne) := hne
 have HOK : Hid (∀ c ∈ cs, okRune c) := hok
 have hleL := runEnd_le lt cs (i + 1) (by omega)
 clear hne hok
 have k0 := below_alloc w (.cells #[.int .u8 0, .string ⟨#[]⟩, .int .i64 0, .slice none 0 0, .slice none 0 0] 151)
 have R := boxA_new w #[.int .u8 0, .string ⟨#[]⟩, .int .i64 0, .slice none 0 0, .slice none 0 0] 151
 have s0 : w.heap.size < (w.alloc (.cells #[.int .u8 0, .string ⟨#[]⟩, .int .i64 0, .slice none 0 0, .slice none 0 0] 151)).heap.size := by simp
 have HC : Hid (∀ m, m < cs.length → (w.alloc (.cells #[.int .u8 0, .string ⟨#[]⟩, .int .i64 0, .slice none 0 0, .slice none 0 0] 151)).cell? ⟨b, off + m, none⟩ = some (.int .i32 (cs.getD m 0))) := fun m hm => (k0.cell (p := ⟨b, off + m, none⟩) hlt).trans (hc m hm)
 have hc0 := HC.out i hi
 clear hc
 obtain ⟨C, hC⟩ : ∃ C, cs.getD i 0 = C := ⟨_, rfl⟩
 have HCC : Hid (cs.getD i 0 = C) := hC
 rw [hC] at hc0
 clear hC
 go_enter Tryz.func158, Tryz.ntmps158
 go_upto_region 2 with fail
 go_cut [13] from 14 to 19 (fun q wx => q = .bool (decide (C = 175) || dg C) ∧ wx = w.alloc (.cells #[.int .u8 0, .string ⟨#[]⟩, .int .i64 0, .slice none 0 0, .slice none 0 0] 151))
 case first =>
  by_cases h175 : C = 175
  · have e1 : (C == 175) = true := by rw [beq_iff_eq]; exact h175
    have HD : Hid ((decide (C = 175) || dg C) = true) := by unfold Hid; rw [decide_eq_true h175]; rfl
    clear h175
    go_wp2_with fail
    go_meet
    exact ⟨by rw [HD.out], rfl⟩
  · have e1 : (C == 175) = false := by rw [beq_eq_false_iff_ne]; exact h175
    have HD : Hid ((decide (C = 175) || dg C) = dg C) := by unfold Hid; rw [decide_eq_false h175]; rfl
    clear h175
    go_wp2_with fail
    refine (isDigit_any C _).mono ?_
    rintro e w' ⟨rfl, rfl⟩
    generalize dg C = D at *
    go_wp2_with fail
    go_meet
    exact ⟨by rw [HD.out], rfl⟩
 case rest =>
  obtain ⟨rfl, rfl⟩ := hcut
  generalize hA : w.alloc (.cells #[.int .u8 0, .string ⟨#[]⟩, .int .i64 0, .slice none 0 0, .slice none 0 0] 151) = v at *
  clear hA
  by_cases hnum : (decide (C = 175) || dg C) = true
  · have HF : Hid (nextF ne cs i = (1, runEnd inn cs (i + 1), ne (cutText cs i (runEnd inn cs (i + 1))))) := by
     unfold Hid nextF
     rw [HCC.out, if_pos (by simpa using hnum)]
    rw [hnum]
    clear hnum
    go_wp2_with fail
    have hT := numberAt_any HNE.out i hi hk hcap HC.out (show b < v.heap.size by omega)
    refine (hT.mono (fun e w' h => (show TokIs v cs i (nextF ne cs i) e w' from by rw [HF.out]; exact h))).mono ?_
    clear hT HF
    rintro e w1 (⟨hX0, a1, n1, c1, a2, n2, c2, rfl, k1⟩ | ⟨hX0, rfl, k1⟩)
    · have HX0 : Hid ((nextF ne cs i).2.2 = 0) := hX0
      obtain ⟨T, hTT⟩ : ∃ T, cutText cs i (nextF ne cs i).2.1 = T := ⟨_, rfl⟩
      have HTc : Hid (cutText cs i (nextF ne cs i).2.1 = T) := hTT
      rw [hTT]
      clear hTT hX0
      obtain ⟨KD, hKD⟩ : ∃ KD, (nextF ne cs i).1 = KD := ⟨_, rfl⟩
      have HKD : Hid ((nextF ne cs i).1 = KD) := hKD
      obtain ⟨J, hJ⟩ : ∃ J, (nextF ne cs i).2.1 = J := ⟨_, rfl⟩
      have HJ : Hid ((nextF ne cs i).2.1 = J) := hJ
      rw [hKD, hJ]
      clear hKD hJ
      have R7 := R.below k1 s0
      have cc0 := R7.cell 0 rfl
      have cc1 := R7.cell 1 rfl
      have cc2 := R7.cell 2 rfl
      have cc3 := R7.cell 3 rfl
      have cc4 := R7.cell 4 rfl
      have ccf0 := R7.frozen 0
      have ccf1 := R7.frozen 1
      have ccf2 := R7.frozen 2
      have ccf3 := R7.frozen 3
      have ccf4 := R7.frozen 4
      go_wp2
      have R8 := R7.set5 (.int .u8 KD) (.string T) (.int .i64 i) (.slice a1 n1 c1) (.slice a2 n2 c2)
      have x0 := R8.cell 0 rfl
      have x1 := R8.cell 1 rfl
      have x2 := R8.cell 2 rfl
      have x3 := R8.cell 3 rfl
      have x4 := R8.cell 4 rfl
      refine bodyPost_ret (v := .tuple #[.agg #[.int .u8 KD, .string T, .int .i64 i, .slice a1 n1 c1, .slice a2 n2 c2], .int .i64 J, .int .i64 0]) (by simp [results, Tryz.results158, go_sem, x0, x1, x2, x3, x4]) rfl ?_
      exact Or.inl ⟨HX0.out, a1, n1, c1, a2, n2, c2, by rw [HTc.out, HKD.out, HJ.out], Below.set5 (k0.trans (k1.mono (by omega))) (Nat.le_refl _) _ _ _ _ _⟩
    · have HX0 : Hid (¬ (nextF ne cs i).2.2 = 0) := hX0
      obtain ⟨E, hE⟩ : ∃ E, (nextF ne cs i).2.2 = E := ⟨_, rfl⟩
      have HE : Hid ((nextF ne cs i).2.2 = E) := hE
      rw [hE]
      clear hE hX0
      have R7 := R.below k1 s0
      have cc0 := R7.cell 0 rfl
      have cc1 := R7.cell 1 rfl
      have cc2 := R7.cell 2 rfl
      have cc3 := R7.cell 3 rfl
      have cc4 := R7.cell 4 rfl
      have ccf0 := R7.frozen 0
      have ccf1 := R7.frozen 1
      have ccf2 := R7.frozen 2
      have ccf3 := R7.frozen 3
      have ccf4 := R7.frozen 4
      go_wp2
      have R8 := R7.set5 (.int .u8 0) (.string ⟨#[]⟩) (.int .i64 0) (.slice none 0 0) (.slice none 0 0)
      have x0 := R8.cell 0 rfl
      have x1 := R8.cell 1 rfl
      have x2 := R8.cell 2 rfl
      have x3 := R8.cell 3 rfl
      have x4 := R8.cell 4 rfl
      refine bodyPost_ret (v := .tuple #[.agg #[.int .u8 0, .string ⟨#[]⟩, .int .i64 0, .slice none 0 0, .slice none 0 0], .int .i64 0, .int .i64 E]) (by simp [results, Tryz.results158, go_sem, x0, x1, x2, x3, x4]) rfl ?_
      exact Or.inr ⟨HX0.out, by rw [HE.out], Below.set5 (k0.trans (k1.mono (by omega))) (Nat.le_refl _) _ _ _ _ _⟩
  have hnf : (decide (C = 175) || dg C) = false := by simpa using hnum
  have HF0 : Hid (¬ (C = 175 ∨ dg C = true)) := by unfold Hid; simpa using hnum
  rw [hnf]
  clear hnf hnum
  by_cases h39 : C = 39
  · have e1 : (C == 39) = true := by rw [beq_iff_eq]; exact h39
    have HF : Hid (nextF ne cs i = (match qscan cs cs.length (i + 1) [] with | some p => (2, p.2, 0) | none => (0, 0, 26))) := by
     unfold Hid nextF
     rw [HCC.out, if_neg HF0.out, if_pos h39]
    clear h39
    go_wp2_with fail
    have hT := textAt_any i hi hl hk hcap HC.out (by omega) HOK.out
    refine (hT.mono (fun e w' h => (show TokIs v cs i (nextF ne cs i) e w' from ?_))).mono ?_
    · rw [HF.out]
      rcases h with ⟨acc, j, hq, a1, n1, c1, a2, n2, c2, he, hb⟩ | ⟨hq, he, hb⟩
      · rw [hq]; exact Or.inl ⟨rfl, a1, n1, c1, a2, n2, c2, he, hb⟩
      · rw [hq]; exact Or.inr ⟨by decide, he, hb⟩
    clear hT
    clear HF
    rintro e w1 (⟨hX0, a1, n1, c1, a2, n2, c2, rfl, k1⟩ | ⟨hX0, rfl, k1⟩)
    · have HX0 : Hid ((nextF ne cs i).2.2 = 0) := hX0
      obtain ⟨T, hTT⟩ : ∃ T, cutText cs i (nextF ne cs i).2.1 = T := ⟨_, rfl⟩
      have HTc : Hid (cutText cs i (nextF ne cs i).2.1 = T) := hTT
      rw [hTT]
      clear hTT hX0
      obtain ⟨KD, hKD⟩ : ∃ KD, (nextF ne cs i).1 = KD := ⟨_, rfl⟩
      have HKD : Hid ((nextF ne cs i).1 = KD) := hKD
      obtain ⟨J, hJ⟩ : ∃ J, (nextF ne cs i).2.1 = J := ⟨_, rfl⟩
      have HJ : Hid ((nextF ne cs i).2.1 = J) := hJ
      rw [hKD, hJ]
      clear hKD hJ
      have R7 := R.below k1 s0
      have cc0 := R7.cell 0 rfl
      have cc1 := R7.cell 1 rfl
      have cc2 := R7.cell 2 rfl
      have cc3 := R7.cell 3 rfl
      have cc4 := R7.cell 4 rfl
      have ccf0 := R7.frozen 0
      have ccf1 := R7.frozen 1
      have ccf2 := R7.frozen 2
      have ccf3 := R7.frozen 3
      have ccf4 := R7.frozen 4
      go_wp2
      have R8 := R7.set5 (.int .u8 KD) (.string T) (.int .i64 i) (.slice a1 n1 c1) (.slice a2 n2 c2)
      have x0 := R8.cell 0 rfl
      have x1 := R8.cell 1 rfl
      have x2 := R8.cell 2 rfl
      have x3 := R8.cell 3 rfl
      have x4 := R8.cell 4 rfl
      refine bodyPost_ret (v := .tuple #[.agg #[.int .u8 KD, .string T, .int .i64 i, .slice a1 n1 c1, .slice a2 n2 c2], .int .i64 J, .int .i64 0]) (by simp [results, Tryz.results158, go_sem, x0, x1, x2, x3, x4]) rfl ?_
      exact Or.inl ⟨HX0.out, a1, n1, c1, a2, n2, c2, by rw [HTc.out, HKD.out, HJ.out], Below.set5 (k0.trans (k1.mono (by omega))) (Nat.le_refl _) _ _ _ _ _⟩
    · have HX0 : Hid (¬ (nextF ne cs i).2.2 = 0) := hX0
      obtain ⟨E, hE⟩ : ∃ E, (nextF ne cs i).2.2 = E := ⟨_, rfl⟩
      have HE : Hid ((nextF ne cs i).2.2 = E) := hE
      rw [hE]
      clear hE hX0
      have R7 := R.below k1 s0
      have cc0 := R7.cell 0 rfl
      have cc1 := R7.cell 1 rfl
      have cc2 := R7.cell 2 rfl
      have cc3 := R7.cell 3 rfl
      have cc4 := R7.cell 4 rfl
      have ccf0 := R7.frozen 0
      have ccf1 := R7.frozen 1
      have ccf2 := R7.frozen 2
      have ccf3 := R7.frozen 3
      have ccf4 := R7.frozen 4
      go_wp2
      have R8 := R7.set5 (.int .u8 0) (.string ⟨#[]⟩) (.int .i64 0) (.slice none 0 0) (.slice none 0 0)
      have x0 := R8.cell 0 rfl
      have x1 := R8.cell 1 rfl
      have x2 := R8.cell 2 rfl
      have x3 := R8.cell 3 rfl
      have x4 := R8.cell 4 rfl
      refine bodyPost_ret (v := .tuple #[.agg #[.int .u8 0, .string ⟨#[]⟩, .int .i64 0, .slice none 0 0, .slice none 0 0], .int .i64 0, .int .i64 E]) (by simp [results, Tryz.results158, go_sem, x0, x1, x2, x3, x4]) rfl ?_
      exact Or.inr ⟨HX0.out, by rw [HE.out], Below.set5 (k0.trans (k1.mono (by omega))) (Nat.le_refl _) _ _ _ _ _⟩
  have e39 : (C == 39) = false := by rw [beq_eq_false_iff_ne]; exact h39
  by_cases hbn : bn C = true
  · have HF : Hid (nextF ne cs i = (if runEnd inm cs i - i ≤ 32 then (3, runEnd inm cs i, 0) else (0, 0, 27))) := by
     unfold Hid nextF
     rw [HCC.out, if_neg HF0.out, if_neg h39, if_pos hbn]
    clear h39
    go_wp2_with fail
    refine (beginsName_any C _).mono ?_
    rintro e w' ⟨rfl, rfl⟩
    rw [hbn]
    go_wp2_with fail
    have hT := nameAt_any i hi hk hcap HC.out (by omega) (by rw [HCC.out]; unfold inm; rw [hbn]; rfl)
    refine (hT.mono (fun e w'' h => (show TokIs w' cs i (nextF ne cs i) e w'' from ?_))).mono ?_
    · rw [HF.out]
      rcases h with ⟨h32, he, hb⟩ | ⟨h32, he, hb⟩
      · rw [if_pos h32]; exact Or.inl ⟨rfl, none, 0, 0, none, 0, 0, he, hb⟩
      · rw [if_neg (by omega)]; exact Or.inr ⟨by decide, he, hb⟩
    clear hT
    clear HF hbn
    rintro e w1 (⟨hX0, a1, n1, c1, a2, n2, c2, rfl, k1⟩ | ⟨hX0, rfl, k1⟩)
    · have HX0 : Hid ((nextF ne cs i).2.2 = 0) := hX0
      obtain ⟨T, hTT⟩ : ∃ T, cutText cs i (nextF ne cs i).2.1 = T := ⟨_, rfl⟩
      have HTc : Hid (cutText cs i (nextF ne cs i).2.1 = T) := hTT
      rw [hTT]
      clear hTT hX0
      obtain ⟨KD, hKD⟩ : ∃ KD, (nextF ne cs i).1 = KD := ⟨_, rfl⟩
      have HKD : Hid ((nextF ne cs i).1 = KD) := hKD
      obtain ⟨J, hJ⟩ : ∃ J, (nextF ne cs i).2.1 = J := ⟨_, rfl⟩
      have HJ : Hid ((nextF ne cs i).2.1 = J) := hJ
      rw [hKD, hJ]
      clear hKD hJ
      have R7 := R.below k1 s0
      have cc0 := R7.cell 0 rfl
      have cc1 := R7.cell 1 rfl
      have cc2 := R7.cell 2 rfl
      have cc3 := R7.cell 3 rfl
      have cc4 := R7.cell 4 rfl
      have ccf0 := R7.frozen 0
      have ccf1 := R7.frozen 1
      have ccf2 := R7.frozen 2
      have ccf3 := R7.frozen 3
      have ccf4 := R7.frozen 4
      go_wp2
      have R8 := R7.set5 (.int .u8 KD) (.string T) (.int .i64 i) (.slice a1 n1 c1) (.slice a2 n2 c2)
      have x0 := R8.cell 0 rfl
      have x1 := R8.cell 1 rfl
      have x2 := R8.cell 2 rfl
      have x3 := R8.cell 3 rfl
      have x4 := R8.cell 4 rfl
      refine bodyPost_ret (v := .tuple #[.agg #[.int .u8 KD, .string T, .int .i64 i, .slice a1 n1 c1, .slice a2 n2 c2], .int .i64 J, .int .i64 0]) (by simp [results, Tryz.results158, go_sem, x0, x1, x2, x3, x4]) rfl ?_
      exact Or.inl ⟨HX0.out, a1, n1, c1, a2, n2, c2, by rw [HTc.out, HKD.out, HJ.out], Below.set5 (k0.trans (k1.mono (by omega))) (Nat.le_refl _) _ _ _ _ _⟩
    · have HX0 : Hid (¬ (nextF ne cs i).2.2 = 0) := hX0
      obtain ⟨E, hE⟩ : ∃ E, (nextF ne cs i).2.2 = E := ⟨_, rfl⟩
      have HE : Hid ((nextF ne cs i).2.2 = E) := hE
      rw [hE]
      clear hE hX0
      have R7 := R.below k1 s0
      have cc0 := R7.cell 0 rfl
      have cc1 := R7.cell 1 rfl
      have cc2 := R7.cell 2 rfl
      have cc3 := R7.cell 3 rfl
      have cc4 := R7.cell 4 rfl
      have ccf0 := R7.frozen 0
      have ccf1 := R7.frozen 1
      have ccf2 := R7.frozen 2
      have ccf3 := R7.frozen 3
      have ccf4 := R7.frozen 4
      go_wp2
      have R8 := R7.set5 (.int .u8 0) (.string ⟨#[]⟩) (.int .i64 0) (.slice none 0 0) (.slice none 0 0)
      have x0 := R8.cell 0 rfl
      have x1 := R8.cell 1 rfl
      have x2 := R8.cell 2 rfl
      have x3 := R8.cell 3 rfl
      have x4 := R8.cell 4 rfl
      refine bodyPost_ret (v := .tuple #[.agg #[.int .u8 0, .string ⟨#[]⟩, .int .i64 0, .slice none 0 0, .slice none 0 0], .int .i64 0, .int .i64 E]) (by simp [results, Tryz.results158, go_sem, x0, x1, x2, x3, x4]) rfl ?_
      exact Or.inr ⟨HX0.out, by rw [HE.out], Below.set5 (k0.trans (k1.mono (by omega))) (Nat.le_refl _) _ _ _ _ _⟩
  have hbf : bn C = false := by simpa using hbn
  by_cases hq : C = 9109
  · have e1 : (C == 9109) = true := by rw [beq_iff_eq]; exact hq
    have HF : Hid (nextF ne cs i = (4, runEnd lt cs (i + 1), 0)) := by
     unfold Hid nextF
     rw [HCC.out, if_neg HF0.out, if_neg h39, if_neg hbn, if_pos hq]
    clear h39 hbn hq
    go_wp2_with fail
    refine (beginsName_any C _).mono ?_
    rintro e w' ⟨rfl, rfl⟩
    rw [hbf]
    have hR : RdR w'.heap.size w' (.slice (some ⟨b, off, none⟩) cs.length cap) cs := ⟨_, cap, rfl, hk, hcap, Or.inr ⟨b, off, rfl, by omega, HC.out⟩⟩
    go_wp2_with fail
    refine (run_letter hR (i + 1) (by omega)).mono ?_
    rintro e w1 ⟨rfl, rfl⟩
    obtain ⟨j, hj⟩ : ∃ j, runEnd lt cs (i + 1) = j := ⟨_, rfl⟩
    rw [hj] at HF hleL ⊢
    clear hj
    go_wp2_with fail
    refine (piece_any 4 i j (by omega) hleL.2 hk hcap HC.out (by omega)).mono ?_
    rintro e w2 ⟨rfl, k2⟩
    obtain ⟨T, hTT⟩ : ∃ T, cutText cs i j = T := ⟨_, rfl⟩
    have HTc : Hid (cutText cs i j = T) := hTT
    rw [hTT]
    clear hTT
    have R7 := R.below k2 (by omega)
    have cc0 := R7.cell 0 rfl
    have cc1 := R7.cell 1 rfl
    have cc2 := R7.cell 2 rfl
    have cc3 := R7.cell 3 rfl
    have cc4 := R7.cell 4 rfl
    have ccf0 := R7.frozen 0
    have ccf1 := R7.frozen 1
    have ccf2 := R7.frozen 2
    have ccf3 := R7.frozen 3
    have ccf4 := R7.frozen 4
    go_wp2
    have R8 := R7.set5 (.int .u8 4) (.string T) (.int .i64 i) (.slice none 0 0) (.slice none 0 0)
    have x0 := R8.cell 0 rfl
    have x1 := R8.cell 1 rfl
    have x2 := R8.cell 2 rfl
    have x3 := R8.cell 3 rfl
    have x4 := R8.cell 4 rfl
    refine bodyPost_ret (v := .tuple #[.agg #[.int .u8 4, .string T, .int .i64 i, .slice none 0 0, .slice none 0 0], .int .i64 j, .int .i64 0]) (by simp [results, Tryz.results158, go_sem, x0, x1, x2, x3, x4]) rfl ?_
    rw [HF.out]
    exact Or.inl ⟨rfl, none, 0, 0, none, 0, 0, by dsimp only; rw [HTc.out] <;> rfl, Below.set5 (k0.trans (k2.mono (by omega))) (Nat.le_refl _) _ _ _ _ _⟩
  have e9 : (C == 9109) = false := by rw [beq_eq_false_iff_ne]; exact hq
  go_wp2_with fail
  refine (beginsName_any C _).mono ?_
  rintro e w' ⟨rfl, rfl⟩
  rw [hbf]
  go_wp2_with fail
  refine (isPrimitive_any C _).mono ?_
  rintro e w1 ⟨rfl, k1⟩
  have R1 := R.below k1 s0
  have s1 := k1.size
  have HC1 : Hid (∀ m, m < cs.length → w1.cell? ⟨b, off + m, none⟩ = some (.int .i32 (cs.getD m 0))) := fun m hm => (k1.cell (p := ⟨b, off + m, none⟩) (show b < w'.heap.size by omega)).trans (HC.out m hm)
  by_cases hp : C ∈ decs prims prims.size 0
  · have HF : Hid (nextF ne cs i = (5, i + 1, 0)) := by
     unfold Hid nextF
     rw [HCC.out, if_neg HF0.out, if_neg h39, if_neg hbn, if_neg hq, if_pos hp]
    rw [decide_eq_true hp]
    clear h39 hbn hq hp
    go_wp2_with fail
    refine (piece_any 5 i (i + 1) (by omega) (by omega) hk hcap HC1.out (by omega)).mono ?_
    rintro e w2 ⟨rfl, k2⟩
    obtain ⟨T, hTT⟩ : ∃ T, cutText cs i (i + 1) = T := ⟨_, rfl⟩
    have HTc : Hid (cutText cs i (i + 1) = T) := hTT
    rw [hTT]
    clear hTT
    have R7 := R1.below k2 (by omega)
    have cc0 := R7.cell 0 rfl
    have cc1 := R7.cell 1 rfl
    have cc2 := R7.cell 2 rfl
    have cc3 := R7.cell 3 rfl
    have cc4 := R7.cell 4 rfl
    have ccf0 := R7.frozen 0
    have ccf1 := R7.frozen 1
    have ccf2 := R7.frozen 2
    have ccf3 := R7.frozen 3
    have ccf4 := R7.frozen 4
    go_wp2
    have R8 := R7.set5 (.int .u8 5) (.string T) (.int .i64 i) (.slice none 0 0) (.slice none 0 0)
    have x0 := R8.cell 0 rfl
    have x1 := R8.cell 1 rfl
    have x2 := R8.cell 2 rfl
    have x3 := R8.cell 3 rfl
    have x4 := R8.cell 4 rfl
    refine bodyPost_ret (v := .tuple #[.agg #[.int .u8 5, .string T, .int .i64 i, .slice none 0 0, .slice none 0 0], .int .i64 ((i : Int) + 1), .int .i64 0]) (by simp [results, Tryz.results158, go_sem, x0, x1, x2, x3, x4]) rfl ?_
    rw [HF.out]
    exact Or.inl ⟨rfl, none, 0, 0, none, 0, 0, by dsimp only; rw [HTc.out] <;> rfl, Below.set5 ((k0.trans (k1.mono (by omega))).trans (k2.mono (by omega))) (Nat.le_refl _) _ _ _ _ _⟩
  rw [decide_eq_false hp]
  go_wp2_with fail
  refine (isAmong_any sgns C _).mono ?_
  rintro e w3 ⟨rfl, k3⟩
  have R3 := R1.below k3 (by omega)
  have s3 := k3.size
  have HC3 : Hid (∀ m, m < cs.length → w3.cell? ⟨b, off + m, none⟩ = some (.int .i32 (cs.getD m 0))) := fun m hm => (k3.cell (p := ⟨b, off + m, none⟩) (show b < w1.heap.size by omega)).trans (HC1.out m hm)
  by_cases hs : C ∈ decs sgns sgns.size 0
  · have HF : Hid (nextF ne cs i = (6, i + 1, 0)) := by
     unfold Hid nextF
     rw [HCC.out, if_neg HF0.out, if_neg h39, if_neg hbn, if_neg hq, if_neg hp, if_pos hs]
    rw [decide_eq_true hs]
    clear h39 hbn hq hp hs
    go_wp2_with fail
    refine (piece_any 6 i (i + 1) (by omega) (by omega) hk hcap HC3.out (by omega)).mono ?_
    rintro e w2 ⟨rfl, k2⟩
    obtain ⟨T, hTT⟩ : ∃ T, cutText cs i (i + 1) = T := ⟨_, rfl⟩
    have HTc : Hid (cutText cs i (i + 1) = T) := hTT
    rw [hTT]
    clear hTT
    have R7 := R3.below k2 (by omega)
    have cc0 := R7.cell 0 rfl
    have cc1 := R7.cell 1 rfl
    have cc2 := R7.cell 2 rfl
    have cc3 := R7.cell 3 rfl
    have cc4 := R7.cell 4 rfl
    have ccf0 := R7.frozen 0
    have ccf1 := R7.frozen 1
    have ccf2 := R7.frozen 2
    have ccf3 := R7.frozen 3
    have ccf4 := R7.frozen 4
    go_wp2
    have R8 := R7.set5 (.int .u8 6) (.string T) (.int .i64 i) (.slice none 0 0) (.slice none 0 0)
    have x0 := R8.cell 0 rfl
    have x1 := R8.cell 1 rfl
    have x2 := R8.cell 2 rfl
    have x3 := R8.cell 3 rfl
    have x4 := R8.cell 4 rfl
    refine bodyPost_ret (v := .tuple #[.agg #[.int .u8 6, .string T, .int .i64 i, .slice none 0 0, .slice none 0 0], .int .i64 ((i : Int) + 1), .int .i64 0]) (by simp [results, Tryz.results158, go_sem, x0, x1, x2, x3, x4]) rfl ?_
    rw [HF.out]
    exact Or.inl ⟨rfl, none, 0, 0, none, 0, 0, by dsimp only; rw [HTc.out] <;> rfl, Below.set5 (((k0.trans (k1.mono (by omega))).trans (k3.mono (by omega))).trans (k2.mono (by omega))) (Nat.le_refl _) _ _ _ _ _⟩
  have HF : Hid (nextF ne cs i = (0, 0, 26)) := by
   unfold Hid nextF
   rw [HCC.out, if_neg HF0.out, if_neg h39, if_neg hbn, if_neg hq, if_neg hp, if_neg hs]
  rw [decide_eq_false hs]
  clear h39 hbn hq hp hs
  have cc0 := R3.cell 0 rfl
  have cc1 := R3.cell 1 rfl
  have cc2 := R3.cell 2 rfl
  have cc3 := R3.cell 3 rfl
  have cc4 := R3.cell 4 rfl
  have ccf0 := R3.frozen 0
  have ccf1 := R3.frozen 1
  have ccf2 := R3.frozen 2
  have ccf3 := R3.frozen 3
  have ccf4 := R3.frozen 4
  go_wp2
  have R8 := R3.set5 (.int .u8 0) (.string ⟨#[]⟩) (.int .i64 0) (.slice none 0 0) (.slice none 0 0)
  have x0 := R8.cell 0 rfl
  have x1 := R8.cell 1 rfl
  have x2 := R8.cell 2 rfl
  have x3 := R8.cell 3 rfl
  have x4 := R8.cell 4 rfl
  refine bodyPost_ret (v := .tuple #[.agg #[.int .u8 0, .string ⟨#[]⟩, .int .i64 0, .slice none 0 0, .slice none 0 0], .int .i64 0, .int .i64 26]) (by simp [results, Tryz.results158, go_sem, x0, x1, x2, x3, x4]) rfl ?_
  rw [HF.out]
  exact Or.inr ⟨by decide, rfl, Below.set5 ((k0.trans (k1.mono (by omega))).trans (k3.mono (by omega))) (Nat.le_refl _) _ _ _ _ _⟩
end
end Go.Proofs.YtimfnalpmmkndaaGreatDoor

/- lex.tokens at any line: what its iterator tells. -/
namespace Go.Proofs.YtimfnalpmmkndaaGreatDoor
set_option linter.unusedVariables false
set_option linter.unusedSimpArgs false
open Go.RowKit Go.Shelf

attribute [local go_sem] Oper.semAt_some

structure TokG where
 kd : Int
 tx : ByteArray
 pl : Nat
 er : Int
 a1 : Option Addr
 n1 : Nat
 c1 : Nat
 a2 : Option Addr
 n2 : Nat
 c2 : Nat
def TokG.core (x : TokG) : Int × ByteArray × Nat × Int := (x.kd, x.tx, x.pl, x.er)
def TokG.cells (x : TokG) : List Value := [.int .u8 x.kd, .string x.tx, .int .i64 x.pl, .slice x.a1 x.n1 x.c1, .slice x.a2 x.n2 x.c2]
def TokG.encs (x : TokG) : Array Value := #[.agg #[.int .u8 x.kd, .string x.tx, .int .i64 x.pl, .slice x.a1 x.n1 x.c1, .slice x.a2 x.n2 x.c2], .int .i64 x.er]
def itemsF (ne : ByteArray → Int) (cs : List Int) : Nat → Nat → List (Int × ByteArray × Nat × Int)
 | 0, _ => []
 | f + 1, i => if i < cs.length then
     if (nextF ne cs i).2.2 = 0 then ((nextF ne cs i).1, cutText cs i (nextF ne cs i).2.1, i, 0) :: itemsF ne cs f (passTo cs (nextF ne cs i).2.1)
     else [(0, ⟨#[]⟩, i, (nextF ne cs i).2.2)]
  else [(0, ⟨#[]⟩, i, 0)]
def items (ne : ByteArray → Int) (cs : List Int) : List (Int × ByteArray × Nat × Int) := itemsF ne cs (cs.length + 1) (passTo cs 0)
structure KeepG (n₀ Bn : Nat) (W W' : World) : Prop where
 below : Below n₀ W W'
 box : W'.heap[Bn]? = W.heap[Bn]?
theorem KeepG.trans {n₀ Bn : Nat} {A B C : World} (h : KeepG n₀ Bn A B) (k : KeepG n₀ Bn B C) : KeepG n₀ Bn A C := ⟨h.below.trans k.below, k.box.trans h.box⟩

theorem qscan_end (cs : List Int) : ∀ (f i : Nat) (acc : List Int) (p : List Int × Nat), qscan cs f i acc = some p → i < p.2 ∧ p.2 ≤ cs.length
 | 0, i, acc, p, h => by simp [qscan] at h
 | f + 1, i, acc, p, h => by
  rw [qscan] at h
  by_cases h1 : i < cs.length
  · rw [if_pos h1] at h
    by_cases h2 : cs.getD i 0 = 39
    · rw [if_pos h2] at h
      by_cases h3 : i + 1 = cs.length ∨ ¬ cs.getD (i + 1) 0 = 39
      · rw [if_pos h3] at h
        cases h
        exact ⟨by simp, by simp; omega⟩
      · rw [if_neg h3] at h
        have := qscan_end cs f (i + 2) _ p h
        omega
    · rw [if_neg h2] at h
      have := qscan_end cs f (i + 1) _ p h
      omega
  · rw [if_neg h1] at h; cases h
theorem runEnd_gt {p : Int → Bool} {cs : List Int} {i : Nat} (hi : i < cs.length) (hf : p (cs.getD i 0) = true) : i < runEnd p cs i := by
 unfold runEnd
 rw [List.drop_eq_getElem_cons hi]
 have e : cs.getD i 0 = cs[i] := by simp [List.getD, hi]
 rw [e] at hf
 rw [List.takeWhile_cons, if_pos hf, List.length_cons]
 omega
theorem nextF_end (ne : ByteArray → Int) (cs : List Int) (i : Nat) (hi : i < cs.length) (h0 : (nextF ne cs i).2.2 = 0) : i < (nextF ne cs i).2.1 ∧ (nextF ne cs i).2.1 ≤ cs.length := by
 unfold nextF at h0 ⊢
 by_cases h1 : cs.getD i 0 = 175 ∨ dg (cs.getD i 0) = true
 · rw [if_pos h1]
   have := runEnd_le inn cs (i + 1) (by omega)
   exact ⟨by simp; omega, by simp; omega⟩
 rw [if_neg h1] at h0 ⊢
 by_cases h2 : cs.getD i 0 = 39
 · rw [if_pos h2] at h0 ⊢
   cases hq : qscan cs cs.length (i + 1) [] with
   | none => rw [hq] at h0; simp at h0
   | some p =>
    have := qscan_end cs _ _ _ _ hq
    exact ⟨by simp; omega, by simp; omega⟩
 rw [if_neg h2] at h0 ⊢
 by_cases h3 : bn (cs.getD i 0) = true
 · rw [if_pos h3] at h0 ⊢
   by_cases h4 : runEnd inm cs i - i ≤ 32
   · rw [if_pos h4]
     have h5 := runEnd_le inm cs i (by omega)
     have h6 := runEnd_gt (p := inm) hi (by unfold inm; rw [h3]; rfl)
     exact ⟨h6, h5.2⟩
   · rw [if_neg h4] at h0; simp at h0
 rw [if_neg h3] at h0 ⊢
 by_cases h4 : cs.getD i 0 = 9109
 · rw [if_pos h4]
   have := runEnd_le lt cs (i + 1) (by omega)
   exact ⟨by simp; omega, by simp; omega⟩
 rw [if_neg h4] at h0 ⊢
 by_cases h5 : cs.getD i 0 ∈ decs prims prims.size 0
 · rw [if_pos h5]; exact ⟨by simp, by simp; omega⟩
 rw [if_neg h5] at h0 ⊢
 by_cases h6 : cs.getD i 0 ∈ decs sgns sgns.size 0
 · rw [if_pos h6]; exact ⟨by simp, by simp; omega⟩
 rw [if_neg h6] at h0; simp at h0
theorem passTo_le {cs : List Int} {i : Nat} (hi : i ≤ cs.length) : i ≤ passTo cs i ∧ passTo cs i ≤ cs.length := by
 have h := runEnd_le bl cs i hi
 unfold passTo
 by_cases hx : runEnd bl cs i < cs.length ∧ cs.getD (runEnd bl cs i) 0 = 9053
 · rw [if_pos hx]; omega
 · rw [if_neg hx]; exact h

set_option maxRecDepth 100000 in
set_option maxHeartbeats 6400000 in
theorem toks_pays {w : World} {cs : List Int} {a : Option Addr} {cap Bn n₀ : Nat} {ne : ByteArray → Int} (hne : TellsErr ne) (n : Nat) (hn : 2 ≤ n) (hl : cs.length ≤ 1000000) (hrd : RdR n₀ w (.slice a cs.length cap) cs)
    (hn₀ : n₀ ≤ Bn) (hBn : BoxA w Bn 116 #[.slice a cs.length cap]) (hok : ∀ c ∈ cs, okRune c) :
    PaysX Fence.wide n Tryz.prog 156 #[.pointer (some ⟨Bn, 0, none⟩)] TokG.encs (KeepG n₀ Bn) (fun pre x _ => ∃ r, pre.map TokG.core ++ x.core :: r = items ne cs) (fun xs _ => xs.map TokG.core = items ne cs) (fun xs => xs.map TokG.core <+: items ne cs) w := by
 intro l J Jx W hW hJ hJx hY hJ0
 obtain ⟨a', cap', he, hk, hcap, hpl⟩ := hrd
 cases he
 have HNE : Hid (TellsErr ne) := hne
 have HOK : Hid (∀ c ∈ cs, okRune c) := hok
 clear hne hok
 have hBw := hBn.lt
 have HC : Hid (∀ {W' : World}, Below n₀ W W' → RdR n₀ W' (.slice a cs.length cap) cs) := fun {W'} hb' => by
  refine ⟨_, cap, rfl, hk, hcap, ?_⟩
  rcases hpl with h | ⟨b, off, h1, h2, h3⟩
  · exact Or.inl h
  · exact Or.inr ⟨b, off, h1, h2, fun j hj => ((hb'.cell (p := ⟨b, off + j, none⟩) h2).trans (hW.cell (p := ⟨b, off + j, none⟩) (show b < w.heap.size by omega))).trans (h3 j hj)⟩
 have hBW := hBn.below hW hBw
 have hsW := hW.size
 clear hpl
 have c0 := hBW.cell 0 rfl
 refine callsIn_of_wp Tryz.func156 rfl trivial ?_ rfl
 simp only [Tryz.ntmps156, List.size_toArray, List.length_cons, List.length_nil, Nat.reduceAdd, Nat.reduceSub, Array.replicate_succ, Array.replicate_zero, List.push_toArray, List.append_toArray, List.nil_append, List.cons_append]
 gi_wp2_with fail
 refine ⟨trivial, fun _ => by omega, ?_⟩
 refine (callsIn_wide.2 (passed_zero (HC.out (Below.refl _ _)))).mono ?_
 rintro e w' ⟨rfl, rfl⟩
 clear c0
 have hp0 := (passTo_le (cs := cs) (i := 0) (Nat.zero_le _)).2
 have HI0 : Hid (itemsF ne cs (cs.length + 1) (passTo cs 0) = items ne cs) := rfl
 generalize passTo cs 0 = i0 at *
 gi_wp2
 gi_loopw [3] (fun at' wr => ∃ (i f : Nat) (pre : List TokG), at' = .int .i64 i ∧ J pre wr ∧ KeepG n₀ Bn w' wr ∧ w'.heap.size ≤ wr.heap.size ∧ Hid (pre.map TokG.core ++ itemsF ne cs f i = items ne cs) ∧ i ≤ cs.length ∧ cs.length < i + f) (fun at' _ => cs.length - (intOf at').toNat)
 case atStart => exact ⟨i0, cs.length + 1, [], rfl, hJ0, ⟨Below.refl _ _, rfl⟩, Nat.le_refl _, HI0, hp0, by omega⟩
 case round =>
  obtain ⟨i, f, pre, rfl, hJs, hK, hsz, HI, hile, hfu⟩ := hrel
  obtain ⟨f, rfl⟩ : ∃ f', f = f' + 1 := ⟨f - 1, by omega⟩
  have hBr : BoxA wr Bn 116 #[.slice a cs.length cap] := by unfold BoxA; rw [hK.box]; exact hBW
  have c0 := hBr.cell 0 rfl
  by_cases hil : i < cs.length
  · obtain ⟨b, off, rfl, hb, hcc⟩ : ∃ b off, a = some ⟨b, off, none⟩ ∧ b < n₀ ∧ ∀ j, j < cs.length → wr.cell? ⟨b, off + j, none⟩ = some (.int .i32 (cs.getD j 0)) := by
     obtain ⟨_, _, he, _, _, h⟩ := HC.out hK.below
     cases he
     rcases h with h | ⟨b, off, h1, h2, h3⟩
     · omega
     · exact ⟨b, off, h1, h2, h3⟩
    have HCC : Hid (∀ j, j < cs.length → wr.cell? ⟨b, off + j, none⟩ = some (.int .i32 (cs.getD j 0))) := hcc
    clear hcc
    gi_wp2_with fail
    refine ⟨trivial, fun _ => by omega, ?_⟩
    refine (callsIn_wide.2 (next_any HNE.out i hil hl hk hcap HCC.out (by omega) HOK.out)).mono ?_
    rintro e w1 (⟨h0, a1, n1, c1, a2, n2, c2, rfl, k1⟩ | ⟨h0, rfl, k1⟩)
    · have hje := nextF_end ne cs i hil h0
      have HI2 : Hid (pre.map TokG.core ++ ((nextF ne cs i).1, cutText cs i (nextF ne cs i).2.1, i, (0 : Int)) :: itemsF ne cs f (passTo cs (nextF ne cs i).2.1) = items ne cs) := by
       unfold Hid
       rw [← HI.out, itemsF, if_pos hil, if_pos h0]
      clear h0
      have hpl := passTo_le hje.2
      generalize hX1 : (nextF ne cs i).1 = KD at *
      generalize hX2 : (nextF ne cs i).2.1 = j at *
      clear hX1 hX2
      generalize cutText cs i j = T at *
      have k2 := below_alloc w1 (.cells #[.int .u8 KD, .string T, .int .i64 i, .slice a1 n1 c1, .slice a2 n2 c2] 151)
      have s1 := k1.size
      have t2 : Below wr.heap.size wr _ := k1.trans (k2.mono s1)
      have Tk := boxA_new w1 #[.int .u8 KD, .string T, .int .i64 i, .slice a1 n1 c1, .slice a2 n2 c2] 151
      have hJ2 := hJ pre wr _ none hJs (grown_below t2) (fun r e => by cases e)
      obtain ⟨fn, tmps, assign, body, hy, hRd⟩ := hY pre ⟨KD, T, i, 0, a1, n1, c1, a2, n2, c2⟩ _ hJ2 ⟨_, HI2.out⟩
      dsimp only [TokG.encs] at hy
      have m0 := Tk.cell 0 rfl
      have m1 := Tk.cell 1 rfl
      have m2 := Tk.cell 2 rfl
      have m3 := Tk.cell 3 rfl
      have m4 := Tk.cell 4 rfl
      gi_wp2
      refine ⟨fun _ => by omega, hRd.mono ?_⟩
      rintro e W3 (⟨rfl, hJ3, hk3⟩ | ⟨rfl, hJ3⟩)
      · have hKr : KeepG n₀ Bn wr (w1.alloc (.cells #[.int .u8 KD, .string T, .int .i64 i, .slice a1 n1 c1, .slice a2 n2 c2] 151)) := ⟨t2.mono (by omega), t2.block Bn (by omega)⟩
        have hK3 := (hK.trans hKr).trans hk3
        have hB3 : BoxA W3 Bn 116 #[.slice (some ⟨b, off, none⟩) cs.length cap] := by unfold BoxA; rw [hK3.box]; exact hBW
        have c3 := hB3.cell 0 rfl
        have sz3 : w'.heap.size ≤ W3.heap.size := by
         have h5 := hk3.below.size
         have h6 := t2.size
         omega
        gi_wp2_with fail
        refine ⟨trivial, fun _ => by omega, ?_⟩
        refine (callsIn_wide.2 (passed_any (HC.out hK3.below) j hje.2)).mono ?_
        rintro e w4 ⟨rfl, rfl⟩
        generalize passTo cs j = p at *
        gi_wp2
        go_roundw
        case rel => exact ⟨p, f, _, rfl, hJ3, hK3, sz3, (by unfold Hid; rw [List.map_append, List.append_assoc]; exact HI2.out), hpl.2, by omega⟩
        case measure => simp [intOf]; omega
      · gi_wp2
        refine bodyPost_ret (results_none rfl _ _ _) rfl ?_
        exact ⟨⟨_, rfl⟩, Or.inr ⟨_, ⟨_, (by rw [List.map_append, List.append_assoc]; exact HI2.out)⟩, hJ3⟩⟩
    · have HI2 : Hid (pre.map TokG.core ++ [((0 : Int), (⟨#[]⟩ : ByteArray), i, (nextF ne cs i).2.2)] = items ne cs) := by
       unfold Hid
       rw [← HI.out, itemsF, if_pos hil, if_neg h0]
      have he0 : ((nextF ne cs i).2.2 == 0) = false := by rw [beq_eq_false_iff_ne]; exact h0
      clear h0
      generalize (nextF ne cs i).2.2 = ER at *
      have k2 := below_alloc w1 (.cells #[.int .u8 0, .string ⟨#[]⟩, .int .i64 0, .slice none 0 0, .slice none 0 0] 151)
      have s1 := k1.size
      have t2 : Below wr.heap.size wr _ := k1.trans (k2.mono s1)
      have hJ2 := hJ pre wr _ none hJs (grown_below t2) (fun r e => by cases e)
      obtain ⟨fn, tmps, assign, body, hy, hRd⟩ := hY pre ⟨0, ⟨#[]⟩, i, ER, none, 0, 0, none, 0, 0⟩ _ hJ2 ⟨_, HI2.out⟩
      dsimp only [TokG.encs] at hy
      gi_wp2
      refine ⟨fun _ => by omega, hRd.mono ?_⟩
      rintro e W3 (⟨rfl, hJ3, hk3⟩ | ⟨rfl, hJ3⟩)
      · gi_wp2
        refine bodyPost_ret (results_none rfl _ _ _) rfl ?_
        exact ⟨⟨_, rfl⟩, Or.inl ⟨_, (by rw [List.map_append]; exact HI2.out), hJ3⟩⟩
      · gi_wp2
        refine bodyPost_ret (results_none rfl _ _ _) rfl ?_
        exact ⟨⟨_, rfl⟩, Or.inr ⟨_, ⟨[], (by rw [List.append_nil, List.map_append]; exact HI2.out)⟩, hJ3⟩⟩
  · have HI2 : Hid (pre.map TokG.core ++ [((0 : Int), (⟨#[]⟩ : ByteArray), i, (0 : Int))] = items ne cs) := by
     unfold Hid
     rw [← HI.out, itemsF, if_neg hil]
    obtain ⟨fn, tmps, assign, body, hy, hRd⟩ := hY pre ⟨0, ⟨#[]⟩, i, 0, none, 0, 0, none, 0, 0⟩ _ hJs ⟨_, HI2.out⟩
    dsimp only [TokG.encs] at hy
    gi_wp2
    refine ⟨fun _ => by omega, hRd.mono ?_⟩
    rintro e W3 (⟨rfl, hJ3, hk3⟩ | ⟨rfl, hJ3⟩)
    · gi_wp2
      go_end0
      exact ⟨⟨_, rfl⟩, Or.inl ⟨_, (by rw [List.map_append]; exact HI2.out), hJ3⟩⟩
    · gi_wp2
      go_end0
      exact ⟨⟨_, rfl⟩, Or.inr ⟨_, ⟨[], (by rw [List.append_nil, List.map_append]; exact HI2.out)⟩, hJ3⟩⟩
end Go.Proofs.YtimfnalpmmkndaaGreatDoor

/- lex.Runes of any text; what its characters are. -/
namespace Go.Proofs.YtimfnalpmmkndaaGreatDoor
set_option linter.unusedVariables false
set_option linter.unusedSimpArgs false
open Go.RowKit

def scanR (s : ByteArray) : Nat → Nat → List Int → List Int × Int × Nat
 | 0, _, acc => (acc, 0, 0)
 | f + 1, pos, acc => if pos < s.size then
     if (Utf8.decode s pos).1 = 65533 ∧ (Utf8.decode s pos).2 = 1 then ([], 26, acc.length) else scanR s f (pos + (Utf8.decode s pos).2) (acc ++ [((Utf8.decode s pos).1 : Int)])
  else (acc, 0, 0)

theorem drop_ne {s : ByteArray} {pos : Nat} (hp : pos < s.size) : s.data.toList.drop pos ≠ [] := fun h => by
 have := congrArg List.length h
 simp at this
 have h2 : s.data.size = s.size := rfl
 omega
theorem decodeL_ffd (t : List UInt8) : Lib.decodeL (239 :: 191 :: 189 :: t) = (65533, 3) := by
 rw [Lib.decodeL_N]
 simp [Lib.decodeN]
theorem ffd_prefix (s : ByteArray) (pos : Nat) (hp : pos < s.size) (h : (Utf8.decode s pos).1 = 65533) : Lib.hasPrefix (s.data.toList.drop pos) [239, 191, 189] = !decide ((Utf8.decode s pos).2 = 1) := by
 rw [← Lib.decodeL_drop] at h ⊢
 have hne := drop_ne hp
 generalize s.data.toList.drop pos = l at *
 by_cases h1 : (Lib.decodeL l).2 = 1
 · rw [decide_eq_true h1]
   cases hb : Lib.hasPrefix l [239, 191, 189] with
   | false => rfl
   | true =>
    exfalso
    unfold Lib.hasPrefix at hb
    obtain ⟨t, rfl⟩ := List.isPrefixOf_iff_prefix.1 hb
    rw [show ([239, 191, 189] ++ t : List UInt8) = 239 :: 191 :: 189 :: t from rfl, decodeL_ffd] at h1
    cases h1
 · rw [decide_eq_false h1]
   have he := Lib.encode_decode l hne (fun hx => h1 hx.2)
   rw [h] at he
   have e3 : Lib.encodeRune ((65533 : Nat) : Int) = [239, 191, 189] := by decide
   rw [e3] at he
   unfold Lib.hasPrefix
   rw [List.isPrefixOf_iff_prefix.2 (by rw [he]; exact List.take_prefix _ _)]
   rfl

theorem scanR_ok (s : ByteArray) : ∀ (f pos : Nat) (acc : List Int), (∀ c ∈ acc, (0 ≤ c ∧ c < 55296) ∨ (57343 < c ∧ c ≤ 1114111)) → ∀ c ∈ (scanR s f pos acc).1, (0 ≤ c ∧ c < 55296) ∨ (57343 < c ∧ c ≤ 1114111)
 | 0, pos, acc, h => h
 | f + 1, pos, acc, h => by
  rw [scanR]
  by_cases hp : pos < s.size
  · rw [if_pos hp]
    by_cases hb : (Utf8.decode s pos).1 = 65533 ∧ (Utf8.decode s pos).2 = 1
    · rw [if_pos hb]; intro c hc; cases hc
    · rw [if_neg hb]
      refine scanR_ok s f _ _ ?_
      intro c hc
      rcases List.mem_append.1 hc with hc | hc
      · exact h c hc
      · rw [List.mem_singleton.1 hc, Lib.decode_at]
        have := Lib.decodeN_valid (s.size - pos) (s.get! pos).toNat (s.get! (pos + 1)).toNat (s.get! (pos + 2)).toNat (s.get! (pos + 3)).toNat (UInt8.toNat_lt _)
        omega
  · rw [if_neg hp]; exact h
theorem scanR_len (s : ByteArray) : ∀ (f pos : Nat) (acc : List Int), acc.length ≤ pos → pos ≤ s.size → (scanR s f pos acc).1.length ≤ s.size
 | 0, pos, acc, h, hp => by simp only [scanR]; omega
 | f + 1, pos, acc, h, hps => by
  rw [scanR]
  by_cases hp : pos < s.size
  · rw [if_pos hp]
    by_cases hb : (Utf8.decode s pos).1 = 65533 ∧ (Utf8.decode s pos).2 = 1
    · rw [if_pos hb]; simp
    · rw [if_neg hb]
      have hw := Lib.decode_width_pos s pos hp
      have he := dec_end s pos hp
      exact scanR_len s f _ _ (by simp; omega) (by omega)
  · rw [if_neg hp]; simp only; omega

set_option maxRecDepth 100000 in
set_option maxHeartbeats 6400000 in
theorem runes_all (s : ByteArray) (w : World) (hs : s.size ≤ 2000000) :
    Calls Tryz.prog 116 #[.string s] w fun e w' => ∃ cs a c er at', e = .returned (.tuple #[.slice a cs.length c, .int .i64 er, .int .i64 ((at' : Nat) : Int)]) ∧ OwnR w.heap.size w' (.slice a cs.length c) cs ∧ Hid (scanR s s.size 0 [] = (cs, er, at')) ∧ Below w.heap.size w w' := by
 obtain ⟨i0, hi, hz0, hz1, hz2⟩ := info_parts info_i32
 go_enter Tryz.func116, Tryz.ntmps116
 go_wp2
 go_loopw [5] (fun out wr => ∃ (pos fuel : Nat) (cs : List Int) (a : Option Addr) (c : Nat), out = .slice a cs.length c ∧ OwnR (w.heap.size + 1) wr (.slice a cs.length c) cs ∧ wr.heap[w.heap.size]? = some (.stringIter s pos) ∧ Hid (scanR s fuel pos cs = scanR s s.size 0 []) ∧ s.size ≤ pos + fuel ∧ cs.length ≤ pos ∧ pos ≤ s.size ∧ Below w.heap.size w wr) (fun _ wr => s.size - wr.iterPos w.heap.size)
 case atStart =>
  refine ⟨0, s.size, [], none, 0, rfl, World.ownsRow_nil _ _ _ _, ?_, rfl, by omega, by simp, by omega, below_alloc _ _⟩
  exact World.iter_heap w s 0
 case round =>
  obtain ⟨pos, fuel, cs, a, c, rfl, hO, hit, HD, hf, hcl, hps, hb⟩ := hrel
  have hsz : w.heap.size < wr.heap.size := (Array.getElem?_eq_some_iff.1 hit).1
  by_cases hp : pos < s.size
  · have hnx : ∀ ty, (Instr.next (.pointer (some ⟨w.heap.size, 0, none⟩)) true ty).run Tryz.prog wr = _ := fun ty => Lib.run_next_any_at wr w.heap.size s pos ty hit hp
    have hwd := Lib.decode_width_pos s pos hp
    have hwe := dec_end s pos hp
    obtain ⟨f, rfl⟩ : ∃ f, fuel = f + 1 := ⟨fuel - 1, by omega⟩
    have HS : Hid (scanR s (f + 1) pos cs = if (Utf8.decode s pos).1 = 65533 ∧ (Utf8.decode s pos).2 = 1 then ([], 26, cs.length) else scanR s f (pos + (Utf8.decode s pos).2) (cs ++ [((Utf8.decode s pos).1 : Int)])) := by
     unfold Hid
     rw [scanR, if_pos hp]
    have HF : Hid ((Utf8.decode s pos).1 = 65533 → Lib.hasPrefix (s.extract pos s.size).data.toList [239, 191, 189] = !decide ((Utf8.decode s pos).2 = 1)) := fun h => by
     have e := ffd_prefix s pos hp h
     rw [← e]
     congr 1
     rw [ByteArray.data_extract, Array.toList_extract, List.extract]
     rw [List.take_of_length_le (by simp)]
    have hit2 := Lib.iterAt_heap wr w.heap.size s pos (pos + (Utf8.decode s pos).2) hit
    have hb2 := Lib.below_iterAt hb (k := w.heap.size) (by omega) s (pos + (Utf8.decode s pos).2)
    have hO2 : OwnR (w.heap.size + 1) (wr.iterAt w.heap.size s (pos + (Utf8.decode s pos).2)) (.slice a cs.length c) cs := ownsRow_iterAt hO (by omega) s _
    have HQ : Hid (wr.iterPos w.heap.size = pos) := by unfold Hid; simp only [World.iterPos, hit]
    generalize (Utf8.decode s pos).2 = n at *
    generalize (Utf8.decode s pos).1 = C at *
    generalize wr.iterAt w.heap.size s (pos + n) = W2 at *
    have hsz2 : w.heap.size < W2.heap.size := (Array.getElem?_eq_some_iff.1 hit2).1
    clear hit hb hO
    by_cases hbad : C = 65533 ∧ n = 1
    · have hC : (((C : Nat) : Int) == 65533) = true := by rw [beq_iff_eq]; omega
      have HE : Hid (scanR s s.size 0 [] = ([], 26, cs.length)) := by unfold Hid; rw [← HD.out, HS.out, if_pos hbad]
      have HV : Hid (Lib.hasPrefix (s.extract pos s.size).data.toList [239, 191, 189] = false) := by unfold Hid; rw [HF.out hbad.1, hbad.2]; rfl
      clear hbad HF
      go_wp2_with fail
      refine (Tryz.strings_HasPrefix _ _ _).mono ?_
      rintro e w' ⟨rfl, rfl⟩
      rw [show Lib.hasPrefix (s.extract pos s.size).data.toList (ByteArray.mk #[239, 191, 189]).data.toList = false from HV.out]
      go_wp2
      refine bodyPost_ret (v := .tuple #[.slice none 0 0, .int .i64 26, .int .i64 cs.length]) (by simp [results, Tryz.results116, go_sem]) rfl ?_
      exact ⟨[], none, 0, 26, cs.length, rfl, World.ownsRow_nil _ _ _ _, HE, hb2⟩
    have HS2 : Hid (scanR s f (pos + n) (cs ++ [(C : Int)]) = scanR s s.size 0 []) := by unfold Hid; rw [← HD.out, HS.out, if_neg hbad]
    by_cases hC3 : C = 65533
    case' pos =>
     have hC : (((C : Nat) : Int) == 65533) = true := by rw [beq_iff_eq]; omega
     have HV : Hid (Lib.hasPrefix (s.extract pos s.size).data.toList [239, 191, 189] = true) := by unfold Hid; rw [HF.out hC3, decide_eq_false (fun h => hbad ⟨hC3, h⟩)]; rfl
     clear hC3 hbad HF
     go_wp2_with fail
     refine (Tryz.strings_HasPrefix _ _ _).mono ?_
     rintro e w' ⟨rfl, rfl⟩
     rw [show Lib.hasPrefix (s.extract pos s.size).data.toList (ByteArray.mk #[239, 191, 189]).data.toList = true from HV.out]
    case' neg =>
     have hC : (((C : Nat) : Int) == 65533) = false := by rw [beq_eq_false_iff_ne]; omega
     clear hC3 hbad HF
    all_goals
     go_wp2_with (at_builtin; refine wpList_append_own _ rfl _ _ 116 rfl (w.heap.size + 1) 21 i0 (.int .i32 0) 1 4 Tryz.underlying116 hi hz0 hz1 hz2 rfl (by decide) _ _ _ rfl (hO2.alloc _) ⟨_, 0, none⟩ 1 1 [.int .i32 C] rfl rfl ?c1 ?c2 ?c3 ?c4 ?c5 ?_)
     case c1 =>
      intro j u hj
      match j, hj with
      | 0, hj => simp at hj; subst hj; simp [Addr.add]
     case c2 => intro u hu; simp at hu; subst hu; rfl
     case c3 => unfold maxLen; omega
     case c4 => omega
     case c5 => simp; omega
     intro v' w1 hown' hgrow _
     have hO3 : OwnR (w.heap.size + 1) w1 v' (cs ++ [(C : Int)]) := by
      unfold OwnR
      rw [List.length_append, List.map_append]; exact hown'
     obtain ⟨a2, c2, rfl⟩ := hO3.form
     have hrow : ∀ k, (Value.slice a cs.length c).ownBlock = some k → w.heap.size + 1 ≤ k := fun k hk => (hO2.lt k hk).1
     have hit3 : w1.heap[w.heap.size]? = some (.stringIter s (pos + n)) := by
      rw [hgrow.block w.heap.size (by simp; omega) (fun e => by have := hrow _ e.symm; omega), Below.heap_alloc _ _ _ hsz2]
      exact hit2
     have hb3 : Below w.heap.size w w1 := (hb2.alloc (by omega) _).grown hgrow (by simp; omega) (fun k hk => by have := hrow k hk; omega)
     clear hown' hgrow hO2 hit2 hb2 hrow
     go_wp2
     go_roundw
     case rel => exact ⟨pos + n, f, cs ++ [(C : Int)], a2, c2, (by first | rfl | simp), hO3, hit3, HS2, by omega, (by simp; omega), by omega, hb3⟩
     case measure =>
      rw [HQ.out]
      simp only [World.iterPos, hit3]
      omega
  · have hnx : ∀ ty, (Instr.next (.pointer (some ⟨w.heap.size, 0, none⟩)) true ty).run Tryz.prog wr = _ := fun ty => Lib.run_next_end_at wr w.heap.size s pos ty hit hp
    have HE : Hid (scanR s s.size 0 [] = (cs, 0, 0)) := by
     unfold Hid
     rw [← HD.out]
     cases fuel with
     | zero => rfl
     | succ f => rw [scanR, if_neg hp]
    go_wp2
    refine bodyPost_ret (v := .tuple #[.slice a cs.length c, .int .i64 0, .int .i64 0]) (by simp [results, Tryz.results116, go_sem]) rfl ?_
    exact ⟨cs, a, c, 0, 0, rfl, OwnR.mono hO (by omega), HE, hb⟩
end Go.Proofs.YtimfnalpmmkndaaGreatDoor

/- lex.All at any line. -/
namespace Go.Proofs.YtimfnalpmmkndaaGreatDoor
set_option linter.unusedVariables false
set_option linter.unusedSimpArgs false
open Go.RowKit Go.Shelf

attribute [local go_sem] Oper.semAt_some

def lastEr (l : List (Int × ByteArray × Nat × Int)) : Int × Nat := match l.getLast? with | some x => (x.2.2.2, x.2.2.1) | none => (0, 0)
def allF (ne : ByteArray → Int) (s : ByteArray) : List (Int × ByteArray × Nat × Int) × Int × Nat :=
 if 1024 < s.size then ([], 25, 0)
 else if ¬ (scanR s s.size 0 []).2.1 = 0 then ([], (scanR s s.size 0 []).2)
 else if (lastEr (items ne (scanR s s.size 0 []).1)).1 = 0 then (items ne (scanR s s.size 0 []).1, 0, 0) else ([], lastEr (items ne (scanR s s.size 0 []).1))
def AllIs (w : World) (ne : ByteArray → Int) (s : ByteArray) (e : Ending) (w' : World) : Prop :=
 ∃ (v : Value) (base : Nat) (toks : List TokG), e = .returned (.tuple #[v, .int .i64 (allF ne s).2.1, .int .i64 (((allF ne s).2.2 : Nat) : Int)]) ∧ w'.ownsRow base 151 5 v toks.length (toks.flatMap TokG.cells) ∧ toks.map TokG.core = (allF ne s).1 ∧ Below w.heap.size w w'

theorem itemsF_len (ne : ByteArray → Int) (cs : List Int) : ∀ f i, (itemsF ne cs f i).length ≤ f
 | 0, i => by simp [itemsF]
 | f + 1, i => by
  rw [itemsF]
  by_cases h1 : i < cs.length
  · rw [if_pos h1]
    by_cases h2 : (nextF ne cs i).2.2 = 0
    · rw [if_pos h2]
      have := itemsF_len ne cs f (passTo cs (nextF ne cs i).2.1)
      simp; omega
    · rw [if_neg h2]; simp
  · rw [if_neg h1]; simp
theorem itemsF_err (ne : ByteArray → Int) (cs : List Int) : ∀ (f i : Nat) (l r : List (Int × ByteArray × Nat × Int)) (x : Int × ByteArray × Nat × Int), l ++ x :: r = itemsF ne cs f i → ¬ x.2.2.2 = 0 → r = []
 | 0, i, l, r, x, h, _ => by
  rw [itemsF] at h
  simp at h
 | f + 1, i, l, r, x, h, hx => by
  rw [itemsF] at h
  by_cases h1 : i < cs.length
  · rw [if_pos h1] at h
    by_cases h2 : (nextF ne cs i).2.2 = 0
    · rw [if_pos h2] at h
      cases l with
      | nil =>
       rw [List.nil_append] at h
       have := (List.cons.inj h).1
       rw [this] at hx
       exact absurd rfl hx
      | cons y l =>
       rw [List.cons_append] at h
       exact itemsF_err ne cs f _ l r x (List.cons.inj h).2 hx
    · rw [if_neg h2] at h
      cases l with
      | nil => exact (List.cons.inj h).2
      | cons y l =>
       rw [List.cons_append] at h
       have := (List.cons.inj h).2
       simp at this
  · rw [if_neg h1] at h
    cases l with
    | nil => exact (List.cons.inj h).2
    | cons y l =>
     rw [List.cons_append] at h
     have := (List.cons.inj h).2
     simp at this
theorem lastEr_app (l : List (Int × ByteArray × Nat × Int)) (x : Int × ByteArray × Nat × Int) : lastEr (l ++ [x]) = (x.2.2.2, x.2.2.1) := by
 unfold lastEr
 rw [List.getLast?_append]
 simp
theorem lastEr_zero {l : List (Int × ByteArray × Nat × Int)} (h : ∀ x ∈ l, x.2.2.2 = 0) : (lastEr l).1 = 0 := by
 unfold lastEr
 cases hg : l.getLast? with
 | none => rfl
 | some x => exact h x (List.mem_of_getLast? hg)
theorem keepG_put {n₀ Bn B0 : Nat} (h1 : n₀ ≤ B0) (h2 : Bn < B0) (W : World) (l : Nat) (o o' : Obj) (hl : B0 ≤ l) (ho : W.heap[l]? = some o) : KeepG n₀ Bn W (W.putObj l o') :=
 ⟨(Below.refl _ W).grown (grownBy_putObj' W l o') (by have := (Array.getElem?_eq_some_iff.1 ho).1; omega) (fun k e => by cases e; omega), World.putObj_heap_other (by omega)⟩
theorem OwnR.rdR {base : Nat} {w : World} {a : Option Addr} {c : Nat} {cs : List Int} (h : OwnR base w (.slice a cs.length c) cs) : RdR w.heap.size w (.slice a cs.length c) cs := by
 have hrow := h
 obtain ⟨_, h | ⟨g, cap, cur, hv, hg, hh, h1, h2, _, _⟩⟩ := h
 · obtain ⟨rfl, h3, rfl⟩ := Value.slice.inj h.1
   exact ⟨none, 0, rfl, by omega, by omega, Or.inl h3⟩
 · obtain ⟨rfl, _, rfl⟩ := Value.slice.inj hv
   refine ⟨_, c, rfl, h1, by unfold maxLen at h2; omega, Or.inr ⟨g, 0, rfl, lt_of_block hh, fun j hj => ?_⟩⟩
   have := hrow.cellAt j (by omega)
   rw [Nat.zero_add, this]
   simp [List.getD, hj]

set_option maxRecDepth 100000 in
set_option maxHeartbeats 6400000 in
theorem all_any {w : World} {ne : ByteArray → Int} (hne : TellsErr ne) (T : ByteArray) (hs : T.size ≤ 9223372036854775807) :
    Calls Tryz.prog 82 #[.string T] w fun e w' => AllIs w ne T e w' := by
 have HNE : Hid (TellsErr ne) := hne
 clear hne
 have g1 := below_alloc w (.cells #[.slice none 0 0] 141)
 have g2 := below_alloc (w.alloc (.cells #[.slice none 0 0] 141)) (.cells #[.int .i64 0] 39)
 have g3 := below_alloc ((w.alloc (.cells #[.slice none 0 0] 141)).alloc (.cells #[.int .i64 0] 39)) (.cells #[.int .i64 0] 3)
 have R2 := ((boxA_new w #[.slice none 0 0] 141).below g2 (by simp)).below g3 (by simp; omega)
 have R3 := (boxA_new (w.alloc (.cells #[.slice none 0 0] 141)) #[.int .i64 0] 39).below g3 (by simp)
 have R4 := boxA_new ((w.alloc (.cells #[.slice none 0 0] 141)).alloc (.cells #[.int .i64 0] 39)) #[.int .i64 0] 3
 rw [World.size_alloc] at R3
 rw [World.size_alloc, World.size_alloc] at R4
 have g : Below w.heap.size w _ := g1.trans ((g2.mono g1.size).trans (g3.mono (by simp; omega)))
 have sR : (((w.alloc (.cells #[.slice none 0 0] 141)).alloc (.cells #[.int .i64 0] 39)).alloc (.cells #[.int .i64 0] 3)).heap.size = w.heap.size + 1 + 1 + 1 := by simp
 clear g1 g2 g3
 refine (callsIn_wide (n := 6)).1 ?_
 refine callsIn_of_wp_marks Tryz.func82 rfl trivial ?_ rfl
 simp only [Tryz.ntmps82, List.size_toArray, List.length_cons, List.length_nil, Nat.reduceAdd, Nat.reduceSub, Array.replicate_succ, Array.replicate_zero, List.push_toArray, List.append_toArray, List.nil_append, List.cons_append]
 by_cases hbig : 1024 < T.size
 · have HF : Hid (allF ne T = ([], 25, 0)) := by unfold Hid allF; rw [if_pos hbig]
   have hd13 : decide ((1024 : Int) < ((T.size : Nat) : Int)) = true := by simp; omega
   have p2 := R2.cell 0 rfl
   have p3 := R3.cell 0 rfl
   have p4 := R4.cell 0 rfl
   have f2 := R2.frozen 0
   have f3 := R3.frozen 0
   have f4 := R4.frozen 0
   gi_wp2
   have z1 := below_alloc w (.cells #[.slice none 0 0] 141)
   have z2 := below_alloc (w.alloc (.cells #[.slice none 0 0] 141)) (.cells #[.int .i64 25] 39)
   have z3 := below_alloc ((w.alloc (.cells #[.slice none 0 0] 141)).alloc (.cells #[.int .i64 25] 39)) (.cells #[.int .i64 0] 3)
   have Q2 := ((boxA_new w #[.slice none 0 0] 141).below z2 (by simp)).below z3 (by simp; omega)
   have Q3 := (boxA_new (w.alloc (.cells #[.slice none 0 0] 141)) #[.int .i64 25] 39).below z3 (by simp)
   have Q4 := boxA_new ((w.alloc (.cells #[.slice none 0 0] 141)).alloc (.cells #[.int .i64 25] 39)) #[.int .i64 0] 3
   rw [World.size_alloc] at Q3
   rw [World.size_alloc, World.size_alloc] at Q4
   have x2 := Q2.cell 0 rfl
   have x3 := Q3.cell 0 rfl
   have x4 := Q4.cell 0 rfl
   refine ⟨.tuple #[.slice none 0 0, .int .i64 25, .int .i64 0], by simp [results, Tryz.results82, go_sem, x2, x3, x4], .slice none 0 0, 0, [], by rw [HF.out]; rfl, World.ownsRow_nil _ _ _ _, by rw [HF.out]; rfl, ?_⟩
   exact z1.trans ((z2.mono z1.size).trans (z3.mono (by simp; omega)))
 have hd13 : decide ((1024 : Int) < ((T.size : Nat) : Int)) = false := by simp; omega
 gi_wp2_with fail
 refine ⟨trivial, ?_⟩
 refine (callsIn_wide.2 (runes_all T _ (by omega))).mono ?_
 rintro e w1 ⟨cs, a, c, er, at', rfl, hO, HD, k1⟩
 have s1 := k1.size
 by_cases her : er = 0
 case neg =>
  have HF : Hid (allF ne T = ([], er, at')) := by unfold Hid allF; rw [if_neg hbig, HD.out, if_pos her]
  have he0 : (er == 0) = false := by rw [beq_eq_false_iff_ne]; exact her
  have R2' := R2.below k1 (by omega)
  have R3' := R3.below k1 (by omega)
  have R4' := R4.below k1 (by omega)
  have p2 := R2'.cell 0 rfl
  have p3 := R3'.cell 0 rfl
  have p4 := R4'.cell 0 rfl
  have f2 := R2'.frozen 0
  have f3 := R3'.frozen 0
  have f4 := R4'.frozen 0
  gi_wp2
  have q2 := ((R2'.put1 (.slice none 0 0)).other (p := ⟨w.heap.size + 1, 0, none⟩) (show w.heap.size + 1 ≠ w.heap.size by omega) (.int .i64 er)).other (p := ⟨w.heap.size + 1 + 1, 0, none⟩) (show w.heap.size + 1 + 1 ≠ w.heap.size by omega) (.int .i64 ((at' : Nat) : Int))
  have q3 := ((R3'.other (p := ⟨w.heap.size, 0, none⟩) (show w.heap.size ≠ w.heap.size + 1 by omega) (.slice none 0 0)).put1 (.int .i64 er)).other (p := ⟨w.heap.size + 1 + 1, 0, none⟩) (show w.heap.size + 1 + 1 ≠ w.heap.size + 1 by omega) (.int .i64 ((at' : Nat) : Int))
  have q4 := ((R4'.other (p := ⟨w.heap.size, 0, none⟩) (show w.heap.size ≠ w.heap.size + 1 + 1 by omega) (.slice none 0 0)).other (p := ⟨w.heap.size + 1, 0, none⟩) (show w.heap.size + 1 ≠ w.heap.size + 1 + 1 by omega) (.int .i64 er)).put1 (.int .i64 ((at' : Nat) : Int))
  have x2 := q2.cell 0 rfl
  have x3 := q3.cell 0 rfl
  have x4 := q4.cell 0 rfl
  refine ⟨.tuple #[.slice none 0 0, .int .i64 er, .int .i64 ((at' : Nat) : Int)], by simp [results, Tryz.results82, go_sem, x2, x3, x4], .slice none 0 0, 0, [], by rw [HF.out], World.ownsRow_nil _ _ _ _, by rw [HF.out]; rfl, ?_⟩
  exact (((g.trans (k1.mono (by omega))).setCell (p := ⟨w.heap.size, 0, none⟩) (Nat.le_refl _) _).setCell (p := ⟨w.heap.size + 1, 0, none⟩) (show w.heap.size ≤ w.heap.size + 1 by omega) _).setCell (p := ⟨w.heap.size + 1 + 1, 0, none⟩) (show w.heap.size ≤ w.heap.size + 1 + 1 by omega) _
 subst her
 have HF0 : Hid (allF ne T = if (lastEr (items ne cs)).1 = 0 then (items ne cs, 0, 0) else ([], lastEr (items ne cs))) := by
  unfold Hid allF
  rw [if_neg hbig, HD.out]
  rfl
 have hcl : cs.length ≤ 1024 := by
  have := scanR_len T T.size 0 [] (by simp) (by omega)
  rw [HD.out] at this
  simp only at this
  omega
 have HOK : Hid (∀ c ∈ cs, okRune c) := by
  have := scanR_ok T T.size 0 [] (fun c hc => by cases hc)
  rw [HD.out] at this
  exact this
 clear HD hs
 gi_wp2_with fail
 refine ⟨trivial, ?_⟩
 refine (callsIn_wide.2 (tokens_any _ _ _ _)).mono ?_
 rintro e w2 ⟨rfl, rfl⟩
 gi_wp2_with fail
 have kA := below_alloc w1 (.cells #[.slice none 0 0] 141)
 have kB := below_alloc (w1.alloc (.cells #[.slice none 0 0] 141)) (.cells #[.slice a cs.length c] 116)
 have kAB : Below w1.heap.size w1 _ := kA.trans (kB.mono kA.size)
 have BO := (boxA_new w1 #[.slice none 0 0] 141).below kB (by simp)
 have BN := boxA_new (w1.alloc (.cells #[.slice none 0 0] 141)) #[.slice a cs.length c] 116
 rw [World.size_alloc] at BN
 have sW : ((w1.alloc (.cells #[.slice none 0 0] 141)).alloc (.cells #[.slice a cs.length c] 116)).heap.size = w1.heap.size + 1 + 1 := by simp
 have HRD1 := (hO.rdR).below kAB
 obtain ⟨W0, hW0⟩ : ∃ W0, (w1.alloc (.cells #[.slice none 0 0] 141)).alloc (.cells #[.slice a cs.length c] 116) = W0 := ⟨_, rfl⟩
 rw [hW0] at kAB BO BN sW HRD1 ⊢
 have HRD : Hid (RdR w1.heap.size W0 (.slice a cs.length c) cs) := HRD1
 clear hW0 HRD1 kA kB hO
 obtain ⟨i0, hi, hz0, hz1, hz2⟩ := info_parts info_tok
 have HLEN : Hid ((items ne cs).length ≤ cs.length + 1) := itemsF_len ne cs (cs.length + 1) (passTo cs 0)
 have HERR : Hid (∀ l r x, l ++ x :: r = items ne cs → ¬ x.2.2.2 = 0 → r = []) := fun l r x h hx => itemsF_err ne cs (cs.length + 1) (passTo cs 0) l r x h hx
 have hseq := toks_pays (w := W0) (n₀ := w1.heap.size) (Bn := w1.heap.size + 1) (ne := ne) HNE.out 5 (by omega) (by omega) HRD.out (by omega) BN HOK.out
 have HSEQ : Hid _ := hseq
 clear hseq
 generalize items ne cs = IT at *
 refine wpIn_range_paysX rfl (by omega) (gf := 156) (lb := #[.pointer (some ⟨w1.heap.size + 1, 0, none⟩)]) rfl trivial (enters_of Tryz.func156 (by kernel_rfl) rfl)
  HSEQ.out
  (fun h h' => h.trans h') (fun W l o o' hl ho _ _ => keepG_put (B0 := W0.heap.size) (by omega) (by omega) W l o o' hl ho) (Below.refl _ _) (fun _ => rfl)
  (fun pre W => (∀ x ∈ pre, x.er = 0) ∧ ∃ v, BoxA W w1.heap.size 141 #[v] ∧ W.ownsRow W0.heap.size 151 5 v pre.length (pre.flatMap TokG.cells) ∧ Below w1.heap.size W0 W)
  ?hI ⟨(fun x h => by cases h), _, BO, World.ownsRow_nil _ _ _ _, Below.refl _ _⟩ ?hS
  (fun c pre W => c = .ret ∧ ∃ p x, pre = p ++ [x] ∧ ¬ x.er = 0 ∧ BoxA W w.heap.size 141 #[.slice none 0 0] ∧ BoxA W (w.heap.size + 1) 39 #[.int .i64 x.er] ∧ BoxA W (w.heap.size + 1 + 1) 3 #[.int .i64 x.pl] ∧ Below w.heap.size w W ∧ W0.heap.size ≤ W.heap.size) ?hIx
  (fun pre x a' W => pre.length ≤ 1024 ∧ ∃ Bx, W0.heap.size ≤ Bx ∧ BoxA W Bx 151 #[.int .u8 x.kd, .string x.tx, .int .i64 x.pl, .slice x.a1 x.n1 x.c1, .slice x.a2 x.n2 x.c2] ∧ a' = { tmps := #[.string T, undef, .pointer (some ⟨w.heap.size, 0, none⟩), .pointer (some ⟨w.heap.size + 1, 0, none⟩), .pointer (some ⟨w.heap.size + 1 + 1, 0, none⟩), .slice a cs.length c, .int .i64 0, .int .i64 ((at' : Nat) : Int), .pointer (some ⟨w1.heap.size, 0, none⟩), .pointer (some ⟨Bx, 0, none⟩), .int .i64 x.er, .string T, .int .i64 (T.size : Int), .bool false, .tuple #[.slice a cs.length c, .int .i64 0, .int .i64 ((at' : Nat) : Int)], .string T, .tuple #[.slice a cs.length c, .int .i64 0, .int .i64 ((at' : Nat) : Int)], .slice a cs.length c, .int .i64 0, .int .i64 ((at' : Nat) : Int), .int .i64 0, .bool false, undef, undef, .slice a cs.length c, .func (.func 156) #[] #[.pointer (some ⟨w1.heap.size + 1, 0, none⟩)], .agg #[.int .u8 x.kd, .string x.tx, .int .i64 x.pl, .slice x.a1 x.n1 x.c1, .slice x.a2 x.n2 x.c2], .int .i64 x.er, undef, undef, undef, undef, undef, undef, undef, undef, undef, undef], defers := [] })
  ?hAx ?assign ?body ?done ?stop
 case hI =>
  rintro s A B row ⟨he, v, b1, b2, b3⟩ hg hrow
  have hne : row ≠ some w1.heap.size := fun e => by have := (hrow _ e).1; omega
  refine ⟨he, v, b1.grown hg hne, b2.kept hg ?_, b3.grown hg (by have := b3.size; omega) (fun k e => by have := (hrow k e).1; omega)⟩
  by_cases hv : v.ownBlock = none
  · exact Or.inl hv
  · refine Or.inr (fun e => ?_)
    obtain ⟨_, h | ⟨g, cap, cur, rfl, _, hh, _⟩⟩ := b2
    · rw [h.1] at hv; exact hv rfl
    · obtain ⟨_, o, ho, hc⟩ := hrow g e.symm
      rw [hh] at ho
      cases ho
      cases hc
 case hIx =>
  rintro c s A B row ⟨hc, p, x, hp, hx, b1, b2, b3, b4, b5⟩ hg hrow
  have hlo : ∀ k, row = some k → W0.heap.size ≤ k := fun k e => (hrow k e).1
  exact ⟨hc, p, x, hp, hx, b1.grown hg (fun e => by have := hlo _ e; omega), b2.grown hg (fun e => by have := hlo _ e; omega), b3.grown hg (fun e => by have := hlo _ e; omega), b4.grown hg (by omega) (fun k e => by have := hlo k e; omega), by have := hg.size; omega⟩
 case hS =>
  rintro s A B row h hg hrow
  exact h
 case hAx =>
  rintro pre x a' _ A B row ⟨h1, Bx, h2, h3, h4⟩ hg hrow
  refine ⟨h1, Bx, h2, h3.grown hg (fun e => ?_), h4⟩
  obtain ⟨_, o, ho, hc⟩ := hrow _ e
  unfold BoxA at h3
  rw [h3] at ho
  cases ho
  cases hc
 case assign =>
  rintro l pre x W K ⟨he, v, b1, b2, b3⟩ ⟨rr, hG⟩ hK
  have hpl : pre.length ≤ 1024 := by
   have h5 := HLEN.out
   rw [← hG] at h5
   simp at h5
   omega
  dsimp only [TokG.encs]
  have s3 := b3.size
  have kx := below_alloc W (.cells #[.int .u8 x.kd, .string x.tx, .int .i64 x.pl, .slice x.a1 x.n1 x.c1, .slice x.a2 x.n2 x.c2] 151)
  gi_wp2
  exact hK _ _ ((KeepsOthers.alloc _ _).from _) ⟨kx.mono (by omega), kx.block _ (by omega)⟩ ⟨he, v, b1.below kx b1.lt, b2.alloc _, b3.trans (kx.mono (by omega))⟩ ⟨hpl, W.heap.size, s3, boxA_new W _ _, rfl⟩
 case body =>
  rintro l pre x a' W ⟨he, v, b1, b2, b3⟩ ⟨hG, Bx, hBx, bX, rfl⟩
  have s3 := b3.size
  have cO := b1.cell 0 rfl
  have fO := b1.frozen 0
  have m0 := bX.cell 0 rfl
  have m1 := bX.cell 1 rfl
  have m2 := bX.cell 2 rfl
  have m3 := bX.cell 3 rfl
  have m4 := bX.cell 4 rfl
  have HHE : Hid (∀ x ∈ pre, x.er = 0) := he
  clear he
  by_cases hxe : x.er = 0
  case neg =>
   have he0 : (x.er == 0) = false := by rw [beq_eq_false_iff_ne]; exact hxe
   have kW : Below w1.heap.size w1 W := kAB.trans b3
   have R2' := (R2.below k1 (by omega)).below kW (by omega)
   have R3' := (R3.below k1 (by omega)).below kW (by omega)
   have R4' := (R4.below k1 (by omega)).below kW (by omega)
   have p2 := R2'.cell 0 rfl
   have p3 := R3'.cell 0 rfl
   have p4 := R4'.cell 0 rfl
   have f2 := R2'.frozen 0
   have f3 := R3'.frozen 0
   have f4 := R4'.frozen 0
   have gW : Below w.heap.size w W := (g.trans (k1.mono (by omega))).trans (kW.mono (by omega))
   gi_wp2
   have n1 : ¬ Bx = w.heap.size := by omega
   have n2 : ¬ Bx = w.heap.size + 1 := by omega
   have n3 : ¬ w.heap.size = Bx := by omega
   have n4 : ¬ w.heap.size + 1 = Bx := by omega
   have q2 := ((R2'.put1 (.slice none 0 0)).other (p := ⟨w.heap.size + 1, 0, none⟩) (show w.heap.size + 1 ≠ w.heap.size by omega) (.int .i64 x.er)).other (p := ⟨w.heap.size + 1 + 1, 0, none⟩) (show w.heap.size + 1 + 1 ≠ w.heap.size by omega) (.int .i64 x.pl)
   have q3 := ((R3'.other (p := ⟨w.heap.size, 0, none⟩) (show w.heap.size ≠ w.heap.size + 1 by omega) (.slice none 0 0)).put1 (.int .i64 x.er)).other (p := ⟨w.heap.size + 1 + 1, 0, none⟩) (show w.heap.size + 1 + 1 ≠ w.heap.size + 1 by omega) (.int .i64 x.pl)
   have q4 := ((R4'.other (p := ⟨w.heap.size, 0, none⟩) (show w.heap.size ≠ w.heap.size + 1 + 1 by omega) (.slice none 0 0)).other (p := ⟨w.heap.size + 1, 0, none⟩) (show w.heap.size + 1 ≠ w.heap.size + 1 + 1 by omega) (.int .i64 x.er)).put1 (.int .i64 x.pl)
   have gZ := ((gW.setCell (p := ⟨w.heap.size, 0, none⟩) (Nat.le_refl _) (.slice none 0 0)).setCell (p := ⟨w.heap.size + 1, 0, none⟩) (show w.heap.size ≤ w.heap.size + 1 by omega) (.int .i64 x.er)).setCell (p := ⟨w.heap.size + 1 + 1, 0, none⟩) (show w.heap.size ≤ w.heap.size + 1 + 1 by omega) (.int .i64 x.pl)
   have kF := (KeepsOthers.setCell W ⟨w.heap.size, 0, none⟩ (.slice none 0 0)).trans ((KeepsOthers.setCell _ ⟨w.heap.size + 1, 0, none⟩ (.int .i64 x.er)).trans (KeepsOthers.setCell _ ⟨w.heap.size + 1 + 1, 0, none⟩ (.int .i64 x.pl)))
   have zs : (((W.setCell ⟨w.heap.size, 0, none⟩ (.slice none 0 0)).setCell ⟨w.heap.size + 1, 0, none⟩ (.int .i64 x.er)).setCell ⟨w.heap.size + 1 + 1, 0, none⟩ (.int .i64 x.pl)).heap.size = W.heap.size := by simp [World.setCell]
   have HZ : Hid (KeepsOthers W (((W.setCell ⟨w.heap.size, 0, none⟩ (.slice none 0 0)).setCell ⟨w.heap.size + 1, 0, none⟩ (.int .i64 x.er)).setCell ⟨w.heap.size + 1 + 1, 0, none⟩ (.int .i64 x.pl)).drew ∧ BoxA (((W.setCell ⟨w.heap.size, 0, none⟩ (.slice none 0 0)).setCell ⟨w.heap.size + 1, 0, none⟩ (.int .i64 x.er)).setCell ⟨w.heap.size + 1 + 1, 0, none⟩ (.int .i64 x.pl)).drew w.heap.size 141 #[.slice none 0 0] ∧ BoxA (((W.setCell ⟨w.heap.size, 0, none⟩ (.slice none 0 0)).setCell ⟨w.heap.size + 1, 0, none⟩ (.int .i64 x.er)).setCell ⟨w.heap.size + 1 + 1, 0, none⟩ (.int .i64 x.pl)).drew (w.heap.size + 1) 39 #[.int .i64 x.er] ∧ BoxA (((W.setCell ⟨w.heap.size, 0, none⟩ (.slice none 0 0)).setCell ⟨w.heap.size + 1, 0, none⟩ (.int .i64 x.er)).setCell ⟨w.heap.size + 1 + 1, 0, none⟩ (.int .i64 x.pl)).drew (w.heap.size + 1 + 1) 3 #[.int .i64 x.pl] ∧ Below w.heap.size w (((W.setCell ⟨w.heap.size, 0, none⟩ (.slice none 0 0)).setCell ⟨w.heap.size + 1, 0, none⟩ (.int .i64 x.er)).setCell ⟨w.heap.size + 1 + 1, 0, none⟩ (.int .i64 x.pl)).drew ∧ W0.heap.size ≤ (((W.setCell ⟨w.heap.size, 0, none⟩ (.slice none 0 0)).setCell ⟨w.heap.size + 1, 0, none⟩ (.int .i64 x.er)).setCell ⟨w.heap.size + 1 + 1, 0, none⟩ (.int .i64 x.pl)).drew.heap.size) :=
    ⟨⟨kF.size, kF.same⟩, q2, q3, q4, gZ.trans ⟨rfl, rfl, rfl, Nat.le_refl _, fun _ _ => rfl⟩, by show W0.heap.size ≤ (((W.setCell ⟨w.heap.size, 0, none⟩ (.slice none 0 0)).setCell ⟨w.heap.size + 1, 0, none⟩ (.int .i64 x.er)).setCell ⟨w.heap.size + 1 + 1, 0, none⟩ (.int .i64 x.pl)).heap.size; omega⟩
   clear q2 q3 q4 gZ kF zs
   gi_region
   all_goals
    gi_wp2_with fail
    obtain ⟨kF, q2, q3, q4, gZ, zs⟩ := HZ.out
    exact ⟨kF.from _, rfl, pre, x, rfl, hxe, q2, q3, q4, gZ, zs⟩
  have he0 : (x.er == 0) = true := by rw [beq_iff_eq]; exact hxe
  have kx := below_alloc W (.cells #[.int .u8 x.kd, .string x.tx, .int .i64 x.pl, .slice x.a1 x.n1 x.c1, .slice x.a2 x.n2 x.c2] 151)
  have NX := boxA_new W #[.int .u8 x.kd, .string x.tx, .int .i64 x.pl, .slice x.a1 x.n1 x.c1, .slice x.a2 x.n2 x.c2] 151
  gi_wp2_with (gi_at_builtin; refine wpListIn_append_own _ rfl _ _ 141 rfl W0.heap.size 151 i0 (.agg #[.int .u8 0, .string ⟨#[]⟩, .int .i64 0, .slice none 0 0, .slice none 0 0]) 5 80 Tryz.underlying141 hi hz0 hz1 hz2 rfl (by decide) _ _ _ rfl (b2.alloc _) ⟨W.heap.size, 0, none⟩ 1 1 x.cells rfl rfl ?c1 ?c2 ?c3 ?c4 ?c5 ?_)
  case c1 => exact fun j u hj => hj
  case c2 =>
   intro u hu
   simp [TokG.cells] at hu
   rcases hu with rfl | rfl | rfl | rfl | rfl <;> rfl
  case c3 => unfold maxLen; omega
  case c4 => omega
  case c5 => have := kx.size; omega
  intro v' wa hown' hgrow _
  obtain ⟨g', cap', rfl⟩ := row_form hown'
  have hrow : ∀ j, v.ownBlock = some j → w1.heap.size + 1 + 1 ≤ j := fun j hj => by have := (b2.lt j hj).1; omega
  have hne : v.ownBlock ≠ some w1.heap.size := fun e => by have := hrow _ e; omega
  have hneN : v.ownBlock ≠ some (w1.heap.size + 1) := fun e => by have := hrow _ e; omega
  have bO2 := (b1.below kx b1.lt).grown hgrow hne
  have cO2 := bO2.cell 0 rfl
  have fO2 := bO2.frozen 0
  have sa := hgrow.size
  have sx := kx.size
  have hty := row_ty (b2.alloc (.cells #[.int .u8 x.kd, .string x.tx, .int .i64 x.pl, .slice x.a1 x.n1 x.c1, .slice x.a2 x.n2 x.c2] 151))
  have kB1 : Below w1.heap.size W wa := (kx.mono (by omega)).grown hgrow (by omega) (fun k e => by have := hrow k e; omega)
  have kF1 : KeepsOthers W wa := (KeepsOthers.alloc W _).trans (KeepsOthers.of_grownBy hgrow (fun j o e ho => by obtain ⟨o', ho', _, hc⟩ := hty j e; rw [ho] at ho'; cases ho'; exact hc))
  have kBox : wa.heap[w1.heap.size + 1]? = W.heap[w1.heap.size + 1]? := (hgrow.block _ (by omega) (fun e => hneN e.symm)).trans (kx.block _ (by omega))
  gi_wp2
  refine ⟨(kF1.trans (KeepsOthers.setCell _ _ _)).from _, ⟨kB1.setCell (p := ⟨w1.heap.size, 0, none⟩) (Nat.le_refl _) _, ?_⟩, ?_, _, bO2.put1 _, ?_, ?_⟩
  · exact (Below.heap_setCell _ _ _ _ (by simp)).trans kBox
  · intro y hy
    rcases List.mem_append.1 hy with hy | hy
    · exact HHE.out y hy
    · rw [List.mem_singleton.1 hy]; exact hxe
  · have hr := ownsRow_setCell_other hown' (a := ⟨w1.heap.size, 0, none⟩) (fun e => by have := (hown'.lt _ e).1; simp at this; omega) (.slice (some ⟨g', 0, none⟩) (pre.length + 1) cap')
    rw [sW]
    simpa using hr
  · exact (b3.trans kB1).setCell (p := ⟨w1.heap.size, 0, none⟩) (Nat.le_refl _) _
 case done =>
  rintro D xs W hD hxs ⟨he, v, b1, b2, b3⟩ hK
  have HF : Hid (allF ne T = (xs.map TokG.core, 0, 0)) := by
   unfold Hid
   rw [HF0.out, ← hxs, if_pos]
   refine lastEr_zero (fun x hx => ?_)
   obtain ⟨y, hy, rfl⟩ := List.mem_map.1 hx
   exact he y hy
  clear he
  have s3 := b3.size
  have kW : Below w1.heap.size w1 W := kAB.trans b3
  have R2' := (R2.below k1 (by omega)).below kW (by omega)
  have R3' := (R3.below k1 (by omega)).below kW (by omega)
  have R4' := (R4.below k1 (by omega)).below kW (by omega)
  have cO := b1.cell 0 rfl
  have p2 := R2'.cell 0 rfl
  have p3 := R3'.cell 0 rfl
  have p4 := R4'.cell 0 rfl
  have f2 := R2'.frozen 0
  have f3 := R3'.frozen 0
  have f4 := R4'.frozen 0
  obtain ⟨av, cv, rfl⟩ := row_form2 b2
  gi_wp2
  have hK2 := ((KeepsOthers.setCell W ⟨w.heap.size, 0, none⟩ (.slice av xs.length cv)).trans ((KeepsOthers.setCell _ ⟨w.heap.size + 1, 0, none⟩ (.int .i64 0)).trans (KeepsOthers.setCell _ ⟨w.heap.size + 1 + 1, 0, none⟩ (.int .i64 0)))).same D _ hK rfl
  refine ⟨by simp, .inl ⟨_, _, rfl, run_takeDeferred hK2, ?_⟩⟩
  have hgp := grownBy_putObj' (((W.setCell ⟨w.heap.size, 0, none⟩ (.slice av xs.length cv)).setCell ⟨w.heap.size + 1, 0, none⟩ (.int .i64 0)).setCell ⟨w.heap.size + 1 + 1, 0, none⟩ (.int .i64 0)) D (.deferred none)
  have q2 := (((R2'.put1 (.slice av xs.length cv)).other (p := ⟨w.heap.size + 1, 0, none⟩) (show w.heap.size + 1 ≠ w.heap.size by omega) (.int .i64 0)).other (p := ⟨w.heap.size + 1 + 1, 0, none⟩) (show w.heap.size + 1 + 1 ≠ w.heap.size by omega) (.int .i64 0)).grown hgp (fun e => by cases e; omega)
  have q3 := (((R3'.other (p := ⟨w.heap.size, 0, none⟩) (show w.heap.size ≠ w.heap.size + 1 by omega) (.slice av xs.length cv)).put1 (.int .i64 0)).other (p := ⟨w.heap.size + 1 + 1, 0, none⟩) (show w.heap.size + 1 + 1 ≠ w.heap.size + 1 by omega) (.int .i64 0)).grown hgp (fun e => by cases e; omega)
  have q4 := (((R4'.other (p := ⟨w.heap.size, 0, none⟩) (show w.heap.size ≠ w.heap.size + 1 + 1 by omega) (.slice av xs.length cv)).other (p := ⟨w.heap.size + 1, 0, none⟩) (show w.heap.size + 1 ≠ w.heap.size + 1 + 1 by omega) (.int .i64 0)).put1 (.int .i64 0)).grown hgp (fun e => by cases e; omega)
  have x2 := q2.cell 0 rfl
  have x3 := q3.cell 0 rfl
  have x4 := q4.cell 0 rfl
  refine ⟨.tuple #[.slice av xs.length cv, .int .i64 0, .int .i64 0], by simp [results, Tryz.results82, go_sem, x2, x3, x4], .slice av xs.length cv, W0.heap.size, xs, by rw [HF.out]; rfl, ?_, by rw [HF.out], ?_⟩
  · have hlo : ∀ j, (Value.slice av xs.length cv).ownBlock = some j → w1.heap.size + 1 + 1 ≤ j := fun j hj => by have := (b2.lt j hj).1; omega
    have hneD : (Value.slice av xs.length cv).ownBlock ≠ some D := fun e => by
     obtain ⟨o, ho, _, hc⟩ := row_ty b2 D e
     rw [hK] at ho
     cases ho
     cases hc
    exact (ownsRow_setCell_other (ownsRow_setCell_other (ownsRow_setCell_other b2 (a := ⟨w.heap.size, 0, none⟩) (fun e => by have := hlo _ e; simp at this; omega) (.slice av xs.length cv)) (a := ⟨w.heap.size + 1, 0, none⟩) (fun e => by have := hlo _ e; simp at this; omega) (.int .i64 0)) (a := ⟨w.heap.size + 1 + 1, 0, none⟩) (fun e => by have := hlo _ e; simp at this; omega) (.int .i64 0)).kept hgp (Or.inr hneD)
  · exact ((((((g.trans (k1.mono (by omega))).trans (kW.mono (by omega))).setCell (p := ⟨w.heap.size, 0, none⟩) (Nat.le_refl _) _).setCell (p := ⟨w.heap.size + 1, 0, none⟩) (show w.heap.size ≤ w.heap.size + 1 by omega) _).setCell (p := ⟨w.heap.size + 1 + 1, 0, none⟩) (show w.heap.size ≤ w.heap.size + 1 + 1 by omega) _).grown hgp (by have := kW.size; simp [World.setCell]; omega) (fun k e => by cases e; omega))
 case stop =>
  rintro D c ps W hD hsp ⟨rfl, p, x, rfl, hx, b1, b2, b3, b4, b5⟩ hK
  have HF : Hid (allF ne T = ([], x.er, x.pl)) := by
   unfold Hid
   obtain ⟨rr, hrr⟩ := hsp
   rw [List.map_append, List.append_assoc] at hrr
   have h0 := HERR.out (p.map TokG.core) rr x.core hrr hx
   rw [HF0.out, ← hrr, h0]
   have hl : lastEr (p.map TokG.core ++ (List.map TokG.core [x] ++ [])) = (x.er, x.pl) := lastEr_app _ _
   rw [hl, if_neg hx]
  have p2 := b1.cell 0 rfl
  have p3 := b2.cell 0 rfl
  have p4 := b3.cell 0 rfl
  gi_wp2
  have hDs : D < W.heap.size := (Array.getElem?_eq_some_iff.1 hK).1
  refine ⟨by simp, .inl ⟨_, _, rfl, run_takeDeferred hK, ?_⟩⟩
  have hgp := grownBy_putObj' W D (.deferred none)
  have x2 := (b1.grown hgp (fun e => by cases e; omega)).cell 0 rfl
  have x3 := (b2.grown hgp (fun e => by cases e; omega)).cell 0 rfl
  have x4 := (b3.grown hgp (fun e => by cases e; omega)).cell 0 rfl
  refine ⟨.tuple #[.slice none 0 0, .int .i64 x.er, .int .i64 x.pl], by simp [results, Tryz.results82, go_sem, x2, x3, x4], .slice none 0 0, 0, [], by rw [HF.out], World.ownsRow_nil _ _ _ _, by rw [HF.out]; rfl, ?_⟩
  exact b4.grown hgp (by omega) (fun k e => by cases e; omega)
end Go.Proofs.YtimfnalpmmkndaaGreatDoor
