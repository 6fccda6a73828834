/- glyphref04.All at any line. -/
import Derived.Test.YtckghnpponjmiaaGreatDoorLexRefNext
import Derived.Test.YtckghnpponjmiaaGreatDoorJA
import Derived.Test.YtckghnpponjmiaaGreatDoorJ2
import Derived.Test.YtckghnpponjmiaaGreatDoorShelf
import Derived.Lib.Bytealg
namespace Go.Proofs.YtckghnpponjmiaaGreatDoor
set_option linter.unusedVariables false
set_option linter.unusedSimpArgs false
open Go.RowKit

def TokG.cellsR (x : TokG) : List Value := [.int .i64 x.kd, .string x.tx, .int .i64 x.pl, .slice x.a1 x.n1 x.c1, .slice x.a2 x.n2 x.c2]
/-- The document's tokens of a line from a place on, then the end or an error. -/
def refItemsF (ne : ByteArray → Int) (cs : List Int) : Nat → Nat → List (Int × ByteArray × Nat × Int)
  | 0, _ => []
  | f + 1, i => if i < cs.length ∧ ¬ cs.getD i 0 = 9053 then
      if bl (cs.getD i 0) = true then refItemsF ne cs f (i + 1)
      else if (nextF ne cs i).2.2 = 0 then ((nextF ne cs i).1, cutText cs i (nextF ne cs i).2.1, i, 0) :: refItemsF ne cs f (nextF ne cs i).2.1
      else [(0, ⟨#[]⟩, i, (nextF ne cs i).2.2)]
    else [(0, ⟨#[]⟩, i, 0)]
def refItems (ne : ByteArray → Int) (cs : List Int) : List (Int × ByteArray × Nat × Int) := refItemsF ne cs (cs.length + 1) 0
def refAllF (ne : ByteArray → Int) (s : ByteArray) : List (Int × ByteArray × Nat × Int) × Int × Nat :=
  if 1024 < s.size then ([], 25, 0)
  else if ¬ (scanR s s.size 0 []).2.1 = 0 then ([], (scanR s s.size 0 []).2)
  else if (lastEr (refItems ne (scanR s s.size 0 []).1)).1 = 0 then (refItems ne (scanR s s.size 0 []).1, 0, 0) else ([], lastEr (refItems ne (scanR s s.size 0 []).1))
def RefAllIs (w : World) (ne : ByteArray → Int) (s : ByteArray) (e : Ending) (w' : World) : Prop :=
  ∃ (v : Value) (toks : List TokG), e = .returned (.tuple #[v, .int .i64 (refAllF ne s).2.1, .int .i64 (((refAllF ne s).2.2 : Nat) : Int)]) ∧ w'.ownsRow w.heap.size 44 5 v toks.length (toks.flatMap TokG.cellsR) ∧ toks.map TokG.core = (refAllF ne s).1 ∧ Below w.heap.size w w'

theorem scanR_at (s : ByteArray) : ∀ (f pos : Nat) (acc : List Int), (scanR s f pos acc).2.1 = 0 → (scanR s f pos acc).2.2 = 0
  | 0, pos, acc, h => rfl
  | f + 1, pos, acc, h => by
    rw [scanR] at h ⊢
    by_cases hp : pos < s.size
    · rw [if_pos hp] at h ⊢
      by_cases hb : (Utf8.decode s pos).1 = 65533 ∧ (Utf8.decode s pos).2 = 1
      · rw [if_pos hb] at h; simp at h
      · rw [if_neg hb] at h ⊢; exact scanR_at s f _ _ h
    · rw [if_neg hp]
theorem info_rtok : (Tryz.prog.info? 44).map (fun i => (i.zero, i.size, i.bytes)) = some (some (.agg #[.int .i64 0, .string ⟨#[]⟩, .int .i64 0, .slice none 0 0, .slice none 0 0]), 5, 80) := by kernel_rfl

/-- A token, but of the end only that it is one. -/
def noEnd (x : Int × ByteArray × Nat × Int) : Int × ByteArray × Nat × Int := if x.1 = 0 ∧ x.2.2.2 = 0 then (0, ⟨#[]⟩, 0, 0) else x
theorem runEnd_step {p : Int → Bool} {cs : List Int} {i : Nat} (hi : i < cs.length) (h : p (cs.getD i 0) = true) : runEnd p cs i = runEnd p cs (i + 1) := by
  have e : cs.getD i 0 = cs[i] := by simp [List.getD, hi]
  rw [e] at h
  unfold runEnd
  rw [List.drop_eq_getElem_cons hi, List.takeWhile_cons, if_pos h, List.length_cons]
  omega
theorem runEnd_stop {p : Int → Bool} {cs : List Int} {i : Nat} (hi : i < cs.length) (h : p (cs.getD i 0) = false) : runEnd p cs i = i := by
  have e : cs.getD i 0 = cs[i] := by simp [List.getD, hi]
  rw [e] at h
  unfold runEnd
  rw [List.drop_eq_getElem_cons hi, List.takeWhile_cons, if_neg (by rw [h]; simp)]
  simp
/-- Both ways of passing blanks and remarks tell the same tokens. -/
theorem items_ref (ne : ByteArray → Int) (cs : List Int) : ∀ (n i f g : Nat), cs.length - i ≤ n → i ≤ cs.length → cs.length < passTo cs i + f → cs.length < i + g → (itemsF ne cs f (passTo cs i)).map noEnd = (refItemsF ne cs g i).map noEnd := by
  intro n
  induction n with
  | zero =>
    intro i f g hn hi hf hg
    obtain rfl : i = cs.length := by omega
    rw [passTo_end] at hf ⊢
    obtain ⟨f, rfl⟩ : ∃ k, f = k + 1 := ⟨f - 1, by omega⟩
    obtain ⟨g, rfl⟩ : ∃ k, g = k + 1 := ⟨g - 1, by omega⟩
    rw [itemsF, if_neg (by omega), refItemsF, if_neg (by omega)]
  | succ n ih =>
    intro i f g hn hi hf hg
    obtain ⟨g, rfl⟩ : ∃ k, g = k + 1 := ⟨g - 1, by omega⟩
    by_cases hil : i < cs.length
    · by_cases h9 : cs.getD i 0 = 9053
      · have hb : bl (cs.getD i 0) = false := by rw [h9]; decide
        have e : passTo cs i = cs.length := by
          unfold passTo
          rw [runEnd_stop hil hb, if_pos ⟨hil, h9⟩]
        rw [e] at hf ⊢
        obtain ⟨f, rfl⟩ : ∃ k, f = k + 1 := ⟨f - 1, by omega⟩
        rw [itemsF, if_neg (by omega), refItemsF, if_neg (fun h => h.2 h9)]
        simp [noEnd]
      · rw [refItemsF, if_pos ⟨hil, h9⟩]
        by_cases hb : bl (cs.getD i 0) = true
        · have e : passTo cs i = passTo cs (i + 1) := by
            unfold passTo
            rw [runEnd_step hil hb]
          rw [if_pos hb, e]
          rw [e] at hf
          exact ih (i + 1) f g (by omega) (by omega) hf (by omega)
        · have e : passTo cs i = i := by
            unfold passTo
            rw [runEnd_stop hil (by simpa using hb), if_neg (fun h => h9 h.2)]
          rw [if_neg hb, e]
          rw [e] at hf
          obtain ⟨f, rfl⟩ : ∃ k, f = k + 1 := ⟨f - 1, by omega⟩
          rw [itemsF, if_pos hil]
          by_cases h0 : (nextF ne cs i).2.2 = 0
          · have hj := nextF_end ne cs i hil h0
            have hp := passTo_le hj.2
            rw [if_pos h0, if_pos h0, List.map_cons, List.map_cons, ih (nextF ne cs i).2.1 f g (by omega) hj.2 (by omega) (by omega)]
          · rw [if_neg h0, if_neg h0]
    · obtain rfl : i = cs.length := by omega
      rw [passTo_end] at hf ⊢
      obtain ⟨f, rfl⟩ : ∃ k, f = k + 1 := ⟨f - 1, by omega⟩
      rw [itemsF, if_neg (by omega), refItemsF, if_neg (by omega)]
theorem items_same (ne : ByteArray → Int) (cs : List Int) : (items ne cs).map noEnd = (refItems ne cs).map noEnd :=
  items_ref ne cs cs.length 0 _ _ (by omega) (by omega) (by omega) (by omega)
theorem lastEr_noEnd (l : List (Int × ByteArray × Nat × Int)) : (lastEr (l.map noEnd)).1 = (lastEr l).1 ∧ (¬ (lastEr l).1 = 0 → lastEr (l.map noEnd) = lastEr l) := by
  unfold lastEr
  rw [List.getLast?_map]
  cases l.getLast? with
  | none => exact ⟨rfl, fun h => absurd rfl h⟩
  | some x =>
    simp only [Option.map_some]
    unfold noEnd
    by_cases hx : x.1 = 0 ∧ x.2.2.2 = 0
    · rw [if_pos hx]
      exact ⟨hx.2.symm, fun h => absurd hx.2 h⟩
    · rw [if_neg hx]
      exact ⟨rfl, fun _ => rfl⟩
/-- The program's tokens are the document's, all but the end's place; so are errors and their places. -/
theorem allF_ref (ne : ByteArray → Int) (s : ByteArray) : (allF ne s).1.map noEnd = (refAllF ne s).1.map noEnd ∧ (allF ne s).2 = (refAllF ne s).2 := by
  unfold allF refAllF
  by_cases h1 : 1024 < s.size
  · rw [if_pos h1, if_pos h1]; exact ⟨rfl, rfl⟩
  rw [if_neg h1, if_neg h1]
  by_cases h2 : ¬ (scanR s s.size 0 []).2.1 = 0
  · rw [if_pos h2, if_pos h2]; exact ⟨rfl, rfl⟩
  rw [if_neg h2, if_neg h2]
  have hs := items_same ne (scanR s s.size 0 []).1
  have h3 := lastEr_noEnd (items ne (scanR s s.size 0 []).1)
  have h4 := lastEr_noEnd (refItems ne (scanR s s.size 0 []).1)
  rw [hs] at h3
  by_cases h5 : (lastEr (items ne (scanR s s.size 0 []).1)).1 = 0
  · rw [if_pos h5, if_pos (by rw [← h4.1, h3.1, h5])]
    exact ⟨hs, rfl⟩
  · have h6 : ¬ (lastEr (refItems ne (scanR s s.size 0 []).1)).1 = 0 := by rw [← h4.1, h3.1]; exact h5
    rw [if_neg h5, if_neg h6]
    exact ⟨rfl, by rw [← h3.2 h5, ← h4.2 h6]⟩
theorem refItemsF_len (ne : ByteArray → Int) (cs : List Int) : ∀ f i, (refItemsF ne cs f i).length ≤ f
  | 0, i => by simp [refItemsF]
  | f + 1, i => by
    rw [refItemsF]
    by_cases h1 : i < cs.length ∧ ¬ cs.getD i 0 = 9053
    · rw [if_pos h1]
      by_cases hb : bl (cs.getD i 0) = true
      · rw [if_pos hb]; have := refItemsF_len ne cs f (i + 1); omega
      · rw [if_neg hb]
        by_cases h2 : (nextF ne cs i).2.2 = 0
        · rw [if_pos h2]
          have := refItemsF_len ne cs f (nextF ne cs i).2.1
          simp; omega
        · rw [if_neg h2]; simp
    · rw [if_neg h1]; simp

theorem row_below {W W' : World} {base B e size n : Nat} {v : Value} {xs : List Value} (h : W.ownsRow base e size v n xs) (hb : Below B W W') (hB : W.heap.size ≤ B) : W'.ownsRow base e size v n xs := by
  obtain ⟨h1, h | ⟨g, cap, cur, hv, hg, hh, r⟩⟩ := h
  · exact ⟨h1, Or.inl h⟩
  · exact ⟨h1, Or.inr ⟨g, cap, cur, hv, hg, by rw [hb.block g (Nat.lt_of_lt_of_le (lt_of_block hh) hB)]; exact hh, r⟩⟩
theorem bl_cases (c : Int) : bl c = true ↔ c = 32 ∨ c = 9 := by unfold bl; simp
set_option maxRecDepth 100000 in
set_option maxHeartbeats 16000000 in
theorem refAll_any {w : World} {ne : ByteArray → Int} (hne : TellsErr ne) (s : ByteArray) (hs : s.size ≤ 9223372036854775807) (hT : Lib.Utf8Tabs 0 1 w) :
    Calls Tryz.prog 11 #[.string s] w fun e w' => RefAllIs w ne s e w' := by
  have HNE : Hid (TellsErr ne) := hne
  have HT : Hid (Lib.Utf8Tabs 0 1 w) := hT
  clear hne hT
  obtain ⟨i0, hi, hz0, hz1, hz2⟩ := info_parts info_rtok
  go_enter Tryz.func11, Tryz.ntmps11
  by_cases hbig : 1024 < s.size
  · have HF : Hid (refAllF ne s = ([], 25, 0)) := by unfold Hid refAllF; rw [if_pos hbig]
    have hd13 : decide ((1024 : Int) < ((s.size : Nat) : Int)) = true := by simp; omega
    go_wp2
    refine bodyPost_ret (v := .tuple #[.slice none 0 0, .int .i64 25, .int .i64 0]) (by simp [results, Tryz.results11, go_sem]) rfl ?_
    exact ⟨.slice none 0 0, [], by rw [HF.out]; rfl, World.ownsRow_nil _ _ _ _, by rw [HF.out]; rfl, Below.refl _ _⟩
  have hd13 : decide ((1024 : Int) < ((s.size : Nat) : Int)) = false := by simp; omega
  go_wp2_with fail
  refine (refRunes_any s _ (by omega) HT.out).mono ?_
  rintro e w1 ⟨cs, a, c, er, at', rfl, hO, HD, k1⟩
  have s1 := k1.size
  by_cases her : er = 0
  case neg =>
    have HF : Hid (refAllF ne s = ([], er, at')) := by unfold Hid refAllF; rw [if_neg hbig, HD.out, if_pos her]
    have he0 : (er == 0) = false := by rw [beq_eq_false_iff_ne]; exact her
    go_wp2
    refine bodyPost_ret (v := .tuple #[.slice none 0 0, .int .i64 er, .int .i64 ((at' : Nat) : Int)]) (by simp [results, Tryz.results11, go_sem]) rfl ?_
    exact ⟨.slice none 0 0, [], by rw [HF.out], World.ownsRow_nil _ _ _ _, by rw [HF.out]; rfl, k1⟩
  subst her
  obtain rfl : at' = 0 := by
    have := scanR_at s s.size 0 []
    rw [HD.out] at this
    exact this rfl
  have HF0 : Hid (refAllF ne s = if (lastEr (refItems ne cs)).1 = 0 then (refItems ne cs, 0, 0) else ([], lastEr (refItems ne cs))) := by
    unfold Hid refAllF
    rw [if_neg hbig, HD.out]
    rfl
  have hcl : cs.length ≤ 1024 := by
    have := scanR_len s s.size 0 [] (by simp) (by omega)
    rw [HD.out] at this
    simp only at this
    omega
  have HRD : Hid (RdR w1.heap.size w1 (.slice a cs.length c) cs) := hO.rdR
  have HLEN : Hid (∀ f i, (refItemsF ne cs f i).length ≤ f) := refItemsF_len ne cs
  clear HD hs hO hbig hd13
  go_wp2
  go_loopw [7, 8] (fun av ov wr => ∃ (i f : Nat) (pre : List TokG) (ao : Option Addr) (co : Nat), av = .int .i64 i ∧ ov = .slice ao pre.length co ∧ wr.ownsRow w1.heap.size 44 5 (.slice ao pre.length co) pre.length (pre.flatMap TokG.cellsR) ∧ Hid (pre.map TokG.core ++ refItemsF ne cs f i = refItems ne cs) ∧ Hid (∀ x ∈ pre, x.er = 0) ∧ i ≤ cs.length ∧ cs.length < i + f ∧ pre.length ≤ i ∧ Below w1.heap.size w1 wr) (fun av _ _ => cs.length - (intOf av).toNat)
  case atStart => exact ⟨0, cs.length + 1, [], none, 0, rfl, rfl, World.ownsRow_nil _ _ _ _, rfl, (fun x h => by cases h), by omega, by omega, by simp, Below.refl _ _⟩
  case round =>
    obtain ⟨i, f, pre, ao, co, rfl, rfl, hO, HI, HE, hile, hfu, hpl, hb⟩ := hrel
    obtain ⟨f, rfl⟩ : ∃ f', f = f' + 1 := ⟨f - 1, by omega⟩
    have hsz := hb.size
    by_cases hgo : i < cs.length ∧ ¬ cs.getD i 0 = 9053
    · obtain ⟨hil, h9⟩ := hgo
      obtain ⟨b, off, rfl, hbl, hk, hcap, hcc⟩ : ∃ b off, a = some ⟨b, off, none⟩ ∧ b < w1.heap.size ∧ cs.length ≤ c ∧ c ≤ 9223372036854775807 ∧ ∀ j, j < cs.length → wr.cell? ⟨b, off + j, none⟩ = some (.int .i32 (cs.getD j 0)) := by
        obtain ⟨_, _, he, h1, h2, h⟩ := HRD.out.below hb
        obtain ⟨rfl, _, rfl⟩ := Value.slice.inj he
        rcases h with h | ⟨b, off, h3, h4, h5⟩
        · omega
        · exact ⟨b, off, h3, h4, h1, h2, h5⟩
      have hci := hcc i hil
      have HCC : Hid (∀ j, j < cs.length → wr.cell? ⟨b, off + j, none⟩ = some (.int .i32 (cs.getD j 0))) := hcc
      clear hcc
      have e9 : (cs.getD i 0 == 9053) = false := by rw [beq_eq_false_iff_ne]; exact h9
      by_cases hbk : bl (cs.getD i 0) = true
      · have HS : Hid (pre.map TokG.core ++ refItemsF ne cs f (i + 1) = refItems ne cs) := by
          unfold Hid
          rw [← HI.out, refItemsF, if_pos ⟨hil, h9⟩, if_pos hbk]
        have hb2 := (bl_cases _).1 hbk
        clear hbk h9 HI HCC
        generalize cs.getD i 0 = D at *
        rcases hb2 with rfl | rfl
        case' inl => skip
        case' inr => skip
        all_goals
          go_wp2
          go_roundw
          case rel => exact ⟨i + 1, f, pre, ao, co, by go_num, rfl, hO, HS, HE, by omega, by omega, by omega, hb⟩
          case measure => simp [intOf]; omega
      have e32 : (cs.getD i 0 == 32) = false := by rw [beq_eq_false_iff_ne]; exact fun h => hbk ((bl_cases _).2 (Or.inl h))
      have e8 : (cs.getD i 0 == 9) = false := by rw [beq_eq_false_iff_ne]; exact fun h => hbk ((bl_cases _).2 (Or.inr h))
      have HI2 : Hid (pre.map TokG.core ++ (if (nextF ne cs i).2.2 = 0 then ((nextF ne cs i).1, cutText cs i (nextF ne cs i).2.1, i, (0 : Int)) :: refItemsF ne cs f (nextF ne cs i).2.1 else [((0 : Int), (⟨#[]⟩ : ByteArray), i, (nextF ne cs i).2.2)]) = refItems ne cs) := by
        unfold Hid
        rw [← HI.out, refItemsF, if_pos (show i < cs.length ∧ ¬ cs.getD i 0 = 9053 from ⟨hil, h9⟩), if_neg hbk]
      clear h9 hbk HI
      generalize cs.getD i 0 = D at *
      go_wp2_with fail
      refine (refNext_any HNE.out i hil (by omega) hk hcap HCC.out (by omega)).mono ?_
      rintro e w2 (⟨h0, a1, n1, c1, a2, n2, c2, rfl, k2⟩ | ⟨h0, rfl, k2⟩)
      · have hje := nextF_end ne cs i hil h0
        have HI3 : Hid (pre.map TokG.core ++ ((nextF ne cs i).1, cutText cs i (nextF ne cs i).2.1, i, (0 : Int)) :: refItemsF ne cs f (nextF ne cs i).2.1 = refItems ne cs) := by
          unfold Hid
          rw [← HI2.out, if_pos h0]
        clear h0 HI2
        generalize (nextF ne cs i).1 = KD at *
        generalize (nextF ne cs i).2.1 = j at *
        generalize cutText cs i j = TX at *
        have k3 := below_alloc w2 (.cells #[.int .i64 KD, .string TX, .int .i64 i, .slice a1 n1 c1, .slice a2 n2 c2] 44)
        have Tk := boxA_new w2 #[.int .i64 KD, .string TX, .int .i64 i, .slice a1 n1 c1, .slice a2 n2 c2] 44
        have s2 := k2.size
        have hO2 := (row_below hO k2 (Nat.le_refl _)).alloc (.cells #[.int .i64 KD, .string TX, .int .i64 i, .slice a1 n1 c1, .slice a2 n2 c2] 44)
        have hb2 := (hb.trans (k2.mono hsz)).trans (k3.mono (by omega))
        have m0 := Tk.cell 0 rfl
        have m1 := Tk.cell 1 rfl
        have m2 := Tk.cell 2 rfl
        have m3 := Tk.cell 3 rfl
        have m4 := Tk.cell 4 rfl
        clear hO hb k2
        go_wp2_with (at_builtin; refine wpList_append_own _ rfl _ _ 40 rfl w1.heap.size 44 i0 (.agg #[.int .i64 0, .string ⟨#[]⟩, .int .i64 0, .slice none 0 0, .slice none 0 0]) 5 80 Tryz.underlying40 hi hz0 hz1 hz2 rfl (by decide) _ _ _ rfl (hO2.alloc _) ⟨_, 0, none⟩ 1 1 (TokG.cellsR ⟨KD, TX, i, 0, a1, n1, c1, a2, n2, c2⟩) rfl rfl ?c1 ?c2 ?c3 ?c4 ?c5 ?_)
        case c1 =>
          intro j u hj
          have NX := boxA_new (w2.alloc (.cells #[.int .i64 KD, .string TX, .int .i64 i, .slice a1 n1 c1, .slice a2 n2 c2] 44)) #[.int .i64 KD, .string TX, .int .i64 i, .slice a1 n1 c1, .slice a2 n2 c2] 44
          (try rw [World.size_alloc] at NX)
          match j, hj with
          | 0, hj => simp [TokG.cellsR] at hj; subst hj; exact NX.cell 0 rfl
          | 1, hj => simp [TokG.cellsR] at hj; subst hj; exact NX.cell 1 rfl
          | 2, hj => simp [TokG.cellsR] at hj; subst hj; exact NX.cell 2 rfl
          | 3, hj => simp [TokG.cellsR] at hj; subst hj; exact NX.cell 3 rfl
          | 4, hj => simp [TokG.cellsR] at hj; subst hj; exact NX.cell 4 rfl
          | j + 5, hj => simp [TokG.cellsR] at hj
        case c2 =>
          intro u hu
          simp [TokG.cellsR] at hu
          rcases hu with rfl | rfl | rfl | rfl | rfl <;> rfl
        case c3 => unfold maxLen; omega
        case c4 => omega
        case c5 => simp; omega
        intro v' w3 hown' hgrow _
        obtain ⟨g', cap', rfl⟩ := row_form hown'
        have hrow : ∀ k, (Value.slice ao pre.length co).ownBlock = some k → w1.heap.size ≤ k := fun k hk => (hO2.lt k hk).1
        have hb3 : Below w1.heap.size w1 w3 := (hb2.alloc (by simp; omega) _).grown hgrow (by simp; omega) (fun k hk => hrow k hk)
        have HE2 : Hid (∀ x ∈ pre ++ [(⟨KD, TX, i, 0, a1, n1, c1, a2, n2, c2⟩ : TokG)], x.er = 0) := fun x hx => by
          rcases List.mem_append.1 hx with hx | hx
          · exact HE.out x hx
          · rw [List.mem_singleton.1 hx]
        clear hgrow hO2 hb2 hrow m0 m1 m2 m3 m4 Tk k3
        go_wp2
        go_roundw
        case rel => exact ⟨j, f, pre ++ [⟨KD, TX, i, 0, a1, n1, c1, a2, n2, c2⟩], some ⟨g', 0, none⟩, cap', rfl, (by simp), (by simpa using hown'), (by unfold Hid; rw [List.map_append, List.append_assoc]; exact HI3.out), HE2, by omega, by omega, (by simp; omega), hb3⟩
        case measure => simp [intOf]; omega
      · have he0 : ((nextF ne cs i).2.2 == 0) = false := by rw [beq_eq_false_iff_ne]; exact h0
        have HF : Hid (refAllF ne s = ([], (nextF ne cs i).2.2, i)) := by
          unfold Hid
          rw [HF0.out, ← HI2.out, if_neg h0, lastEr_app, if_neg h0]
        clear h0 HI2
        generalize (nextF ne cs i).2.2 = ER at *
        have k3 := below_alloc w2 (.cells #[.int .i64 0, .string ⟨#[]⟩, .int .i64 0, .slice none 0 0, .slice none 0 0] 44)
        have s2 := k2.size
        have hb2 := (hb.trans (k2.mono hsz)).trans (k3.mono (by omega))
        go_wp2
        refine bodyPost_ret (v := .tuple #[.slice none 0 0, .int .i64 ER, .int .i64 i]) (by simp [results, Tryz.results11, go_sem]) rfl ?_
        exact ⟨.slice none 0 0, [], by rw [HF.out], World.ownsRow_nil _ _ _ _, by rw [HF.out]; rfl, k1.trans (hb2.mono s1)⟩
    · have HI2 : Hid (pre.map TokG.core ++ [((0 : Int), (⟨#[]⟩ : ByteArray), i, (0 : Int))] = refItems ne cs) := by
        unfold Hid
        rw [← HI.out, refItemsF, if_neg hgo]
      have HF : Hid (refAllF ne s = (refItems ne cs, 0, 0)) := by
        unfold Hid
        rw [HF0.out, if_pos]
        rw [← HI2.out]
        refine lastEr_zero (fun x hx => ?_)
        rcases List.mem_append.1 hx with hx | hx
        · obtain ⟨y, hy, rfl⟩ := List.mem_map.1 hx
          exact HE.out y hy
        · rw [List.mem_singleton.1 hx]
      clear HI
      by_cases hil : i < cs.length
      case' pos =>
        obtain ⟨b, off, rfl, hci⟩ : ∃ b off, a = some ⟨b, off, none⟩ ∧ wr.cell? ⟨b, off + i, none⟩ = some (.int .i32 (cs.getD i 0)) := by
          obtain ⟨_, _, he, h1, h2, h⟩ := HRD.out.below hb
          obtain ⟨rfl, _, rfl⟩ := Value.slice.inj he
          rcases h with h | ⟨b, off, h3, h4, h5⟩
          · omega
          · exact ⟨b, off, h3, h5 i hil⟩
        obtain ⟨_, cc, _, hck, hcm, _⟩ := HRD.out
        have e9 : (cs.getD i 0 == 9053) = true := by
          rw [beq_iff_eq]
          by_cases h9 : cs.getD i 0 = 9053
          · exact h9
          · exact absurd ⟨hil, h9⟩ hgo
        clear hgo
        generalize cs.getD i 0 = D at *
      case' neg => clear hgo
      all_goals
        go_wp2_with (at_builtin; refine wpList_append_own _ rfl _ _ 40 rfl w1.heap.size 44 i0 (.agg #[.int .i64 0, .string ⟨#[]⟩, .int .i64 0, .slice none 0 0, .slice none 0 0]) 5 80 Tryz.underlying40 hi hz0 hz1 hz2 rfl (by decide) _ _ _ rfl (hO.alloc _) ⟨_, 0, none⟩ 1 1 (TokG.cellsR ⟨0, ⟨#[]⟩, i, 0, none, 0, 0, none, 0, 0⟩) rfl rfl ?c1 ?c2 ?c3 ?c4 ?c5 ?_)
        case c1 =>
          intro j u hj
          have NX := boxA_new wr #[.int .i64 0, .string ⟨#[]⟩, .int .i64 i, .slice none 0 0, .slice none 0 0] 44
          (try rw [World.size_alloc] at NX)
          match j, hj with
          | 0, hj => simp [TokG.cellsR] at hj; subst hj; exact NX.cell 0 rfl
          | 1, hj => simp [TokG.cellsR] at hj; subst hj; exact NX.cell 1 rfl
          | 2, hj => simp [TokG.cellsR] at hj; subst hj; exact NX.cell 2 rfl
          | 3, hj => simp [TokG.cellsR] at hj; subst hj; exact NX.cell 3 rfl
          | 4, hj => simp [TokG.cellsR] at hj; subst hj; exact NX.cell 4 rfl
          | j + 5, hj => simp [TokG.cellsR] at hj
        case c2 =>
          intro u hu
          simp [TokG.cellsR] at hu
          rcases hu with rfl | rfl | rfl | rfl | rfl <;> rfl
        case c3 => unfold maxLen; omega
        case c4 => omega
        case c5 => simp; omega
        intro v' w3 hown' hgrow _
        obtain ⟨g', cap', rfl⟩ := row_form hown'
        have hrow : ∀ k, (Value.slice ao pre.length co).ownBlock = some k → w1.heap.size ≤ k := fun k hk => (hO.lt k hk).1
        have hb3 : Below w1.heap.size w1 w3 := (hb.alloc (by omega) _).grown hgrow (by simp; omega) (fun k hk => hrow k hk)
        go_wp2
        refine bodyPost_ret (v := .tuple #[.slice (some ⟨g', 0, none⟩) (pre.length + 1) cap', .int .i64 0, .int .i64 0]) (by simp [results, Tryz.results11, go_sem]) rfl ?_
        refine ⟨_, pre ++ [(⟨0, ⟨#[]⟩, i, 0, none, 0, 0, none, 0, 0⟩ : TokG)], by rw [HF.out]; rfl, ?_, ?_, k1.trans (hb3.mono s1)⟩
        · refine row_mono ?_ s1
          simpa using hown'
        · rw [HF.out, List.map_append]
          exact HI2.out
end Go.Proofs.YtckghnpponjmiaaGreatDoor

/- lex.Count; slices.Contains of kinds. -/
namespace Go.Proofs.YtckghnpponjmiaaGreatDoor
set_option linter.unusedVariables false
set_option linter.unusedSimpArgs false
open Go.RowKit Go.Shelf

/-- A slice of small numbers that is read. -/
def RdK (B : Nat) (w : World) (v : Value) (ks : List Int) : Prop :=
  ∃ a cap, v = .slice a ks.length cap ∧ ks.length ≤ cap ∧ cap ≤ 9223372036854775807 ∧
    (ks.length = 0 ∨ ∃ b off, a = some ⟨b, off, none⟩ ∧ b < B ∧ ∀ j, j < ks.length → w.cell? ⟨b, off + j, none⟩ = some (.int .u8 (ks.getD j 0)))
theorem RdK.below {B : Nat} {w w' : World} {v : Value} {ks : List Int} (h : RdK B w v ks) (hb : Below B w w') : RdK B w' v ks := by
  obtain ⟨a, cap, hv, h1, h2, h3⟩ := h
  refine ⟨a, cap, hv, h1, h2, ?_⟩
  rcases h3 with h3 | ⟨b, off, h4, h5, h6⟩
  · exact Or.inl h3
  · exact Or.inr ⟨b, off, h4, h5, fun j hj => (hb.cell (p := ⟨b, off + j, none⟩) h5).trans (h6 j hj)⟩

set_option maxRecDepth 100000 in
set_option maxHeartbeats 1600000 in
theorem indexK_any {B : Nat} {w : World} {v : Value} {ks : List Int} (h : RdK B w v ks) (x : Int) :
    Calls Tryz.prog 15 #[v, .int .u8 x] w fun e w' => ∃ r : Int, e = .returned (.int .i64 r) ∧ (0 ≤ r ↔ x ∈ ks) ∧ w' = w := by
  obtain ⟨a, cap, rfl, h1, h2, h3⟩ := h
  go_enter Tryz.func15, Tryz.ntmps15
  go_wp2
  go_loopw [8] (fun iv wr => ∃ i : Nat, iv = .int .i64 i ∧ i ≤ ks.length ∧ Hid (x ∉ ks.take i) ∧ wr = w) (fun iv _ => ks.length - (intOf iv).toNat)
  case atStart => exact ⟨0, rfl, Nat.zero_le _, (by unfold Hid; simp), rfl⟩
  case round =>
    obtain ⟨i, rfl, hil, HN, rfl⟩ := hrel
    by_cases hlt : i < ks.length
    · rcases h3 with h3 | ⟨b, off, rfl, hb, hc⟩
      · omega
      have hci := hc i hlt
      have hg : ks.getD i 0 = ks[i] := by simp [List.getD, hlt]
      have ht : ks.take (i + 1) = ks.take i ++ [ks.getD i 0] := by rw [hg, List.take_append_getElem hlt]
      have hm : ks.getD i 0 ∈ ks := by rw [hg]; exact List.getElem_mem hlt
      have HTk : Hid (ks.take (i + 1) = ks.take i ++ [ks.getD i 0] ∧ ks.getD i 0 ∈ ks) := ⟨ht, hm⟩
      clear hc ht hm hg
      generalize ks.getD i 0 = K at *
      by_cases he : x = K
      · have e1 : (x == K) = true := by rw [beq_iff_eq]; exact he
        have HR : Hid ((0 : Int) ≤ i ↔ x ∈ ks) := ⟨fun _ => by rw [he]; exact HTk.out.2, fun _ => by omega⟩
        clear he
        go_wp2
        go_ret
        exact ⟨i, rfl, HR.out, rfl⟩
      · have e1 : (x == K) = false := by rw [beq_eq_false_iff_ne]; exact he
        have HN2 : Hid (x ∉ ks.take (i + 1)) := by
          unfold Hid
          rw [HTk.out.1, List.mem_append]
          rintro (h | h)
          · exact HN.out h
          · exact he (List.mem_singleton.1 h)
        clear he
        go_wp2
        go_roundw
        case rel => exact ⟨i + 1, by go_num, by omega, HN2, (by first | trivial | rfl)⟩
        case measure => simp [intOf]; omega
    · have HR : Hid ((0 : Int) ≤ -1 ↔ x ∈ ks) := by
        have : x ∉ ks := by rw [← List.take_of_length_le (show ks.length ≤ i by omega)]; exact HN.out
        exact ⟨fun h => by omega, fun h => absurd h this⟩
      go_wp2
      go_ret
      exact ⟨-1, rfl, HR.out, rfl⟩
set_option maxRecDepth 100000 in
theorem containsK_any {B : Nat} {w : World} {v : Value} {ks : List Int} (h : RdK B w v ks) (x : Int) :
    Calls Tryz.prog 10 #[v, .int .u8 x] w fun e w' => e = .returned (.bool (decide (x ∈ ks))) ∧ w' = w := by
  go_enter Tryz.func10, Tryz.ntmps10
  go_wp2_with fail
  refine (indexK_any h x).mono ?_
  rintro e w' ⟨r, rfl, hr, rfl⟩
  have HR : Hid (decide (x ∈ ks) = decide (0 ≤ r)) := by unfold Hid; rw [decide_eq_decide]; exact hr.symm
  clear hr
  go_wp2
  go_ret
  exact ⟨by rw [HR.out]; rfl, rfl⟩

/-- How many of some tokens are of some kinds. -/
def cnt (ks : List Int) (l : List (Int × ByteArray × Nat × Int)) : Nat := (l.filter (fun x => decide (x.1 ∈ ks))).length
theorem cnt_app (ks : List Int) (l : List (Int × ByteArray × Nat × Int)) (x : Int × ByteArray × Nat × Int) : cnt ks (l ++ [x]) = cnt ks l + (if x.1 ∈ ks then 1 else 0) := by
  unfold cnt
  rw [List.filter_append, List.length_append]
  by_cases h : x.1 ∈ ks <;> simp [h]
theorem cnt_le (ks : List Int) (l : List (Int × ByteArray × Nat × Int)) : cnt ks l ≤ l.length := List.length_filter_le _ _
theorem flat_get {xs : List TokG} {i : Nat} (hi : i < xs.length) (k : Nat) (hk : k < 5) : (xs.flatMap TokG.cells)[5 * i + k]? = (xs[i]).cells[k]? := by
  induction xs generalizing i with
  | nil => simp at hi
  | cons x xs ih =>
    rw [List.flatMap_cons]
    cases i with
    | zero => rw [Nat.mul_zero, Nat.zero_add, List.getElem?_append_left (by simpa [TokG.cells] using hk)]; rfl
    | succ i =>
      rw [List.getElem?_append_right (by simp [TokG.cells]; omega)]
      have e : 5 * (i + 1) + k - x.cells.length = 5 * i + k := by simp [TokG.cells]; omega
      rw [e, ih (by simpa using hi)]
      rfl
theorem row_ptr {W : World} {base e size n : Nat} {a : Option Addr} {c : Nat} {xs : List Value} (h : W.ownsRow base e size (.slice a n c) n xs) (h0 : 0 < n) : ∃ g, a = some ⟨g, 0, none⟩ ∧ n ≤ c ∧ c ≤ 9223372036854775807 ∧ g < W.heap.size := by
  obtain ⟨_, h | ⟨g, cap, cur, hv, hg, hh, h1, h2, _, _⟩⟩ := h
  · obtain ⟨_, h3, _⟩ := Value.slice.inj h.1; omega
  · obtain ⟨rfl, _, rfl⟩ := Value.slice.inj hv
    exact ⟨g, rfl, h1, by unfold maxLen at h2; omega, lt_of_block hh⟩

theorem allF_len (ne : ByteArray → Int) (s : ByteArray) : (allF ne s).1.length ≤ 1025 := by
  unfold allF
  by_cases h1 : 1024 < s.size
  · rw [if_pos h1]; simp
  rw [if_neg h1]
  by_cases h2 : ¬ (scanR s s.size 0 []).2.1 = 0
  · rw [if_pos h2]; simp
  rw [if_neg h2]
  by_cases h3 : (lastEr (items ne (scanR s s.size 0 []).1)).1 = 0
  · rw [if_pos h3]
    have h4 := scanR_len s s.size 0 [] (by simp) (by omega)
    have h5 : (items ne (scanR s s.size 0 []).1).length ≤ _ := itemsF_len ne (scanR s s.size 0 []).1 _ _
    simp only
    omega
  · rw [if_neg h3]; simp

set_option maxRecDepth 100000 in
set_option maxHeartbeats 6400000 in
theorem lexCount_any {B : Nat} {w : World} {v : Value} {ks : List Int} {ne : ByteArray → Int} (hne : TellsErr ne) (s : ByteArray) (hs : s.size ≤ 9223372036854775807) (h : RdK B w v ks) (hB : B ≤ w.heap.size) :
    Calls Tryz.prog 5 #[.string s, v] w fun e w' => e = .returned (.int .i64 (cnt ks (allF ne s).1 : Nat)) ∧ Below w.heap.size w w' := by
  have HK : Hid (RdK B w v ks) := h
  have HL : Hid ((allF ne s).1.length ≤ 1025) := allF_len ne s
  obtain ⟨a, cap, rfl, _⟩ := h
  go_enter Tryz.func5, Tryz.ntmps5
  go_wp2_with fail
  refine (all_any hne s hs).mono ?_
  rintro e w1 ⟨v1, base, toks, rfl, hrow, ht, k1⟩
  obtain ⟨av, cv, rfl⟩ := row_form2 hrow
  have hlen : toks.length ≤ 1025 := by
    have := HL.out
    rw [← ht, List.length_map] at this
    exact this
  have HTk : Hid (toks.map TokG.core = (allF ne s).1) := ht
  have HROW : Hid (w1.ownsRow base 38 5 (.slice av toks.length cv) toks.length (toks.flatMap TokG.cells)) := hrow
  have s1 := k1.size
  clear ht hrow HL hne
  generalize (allF ne s).2.1 = ER at *
  generalize (allF ne s).2.2 = AT at *
  go_wp2
  go_loopw [8, 19] (fun nv iv wr => ∃ (i n : Nat), nv = .int .i64 n ∧ iv = .int .i64 i ∧ i ≤ toks.length ∧ n ≤ i ∧ Hid (n = cnt ks ((toks.take i).map TokG.core)) ∧ Below w1.heap.size w1 wr) (fun _ iv _ => toks.length - (intOf iv).toNat)
  case atStart => exact ⟨0, 0, rfl, rfl, Nat.zero_le _, Nat.le_refl _, rfl, Below.refl _ _⟩
  case round =>
    obtain ⟨i, n, rfl, rfl, hil, hni, HN, hb⟩ := hrel
    have hsz := hb.size
    by_cases hlt : i < toks.length
    · obtain ⟨g, rfl, hc1, hc2, hgl⟩ := row_ptr HROW.out (by omega)
      have hcell : ∀ k, k < 5 → ∀ u, (toks[i]).cells[k]? = some u → wr.cell? ⟨g, i * 5 + k, none⟩ = some u := fun k hk u hu => by
        have := HROW.out.cellAt (5 * i + k) (by omega)
        rw [show i * 5 + k = 5 * i + k by omega, hb.cell (p := ⟨g, 5 * i + k, none⟩) hgl, this, flat_get hlt k hk, hu]
      have q0 : wr.cell? ⟨g, i * 5, none⟩ = some (.int .u8 (toks[i]).kd) := hcell 0 (by omega) _ rfl
      have q1 := hcell 1 (by omega) _ rfl
      have q2 := hcell 2 (by omega) _ rfl
      have q3 := hcell 3 (by omega) _ rfl
      have q4 := hcell 4 (by omega) _ rfl
      have HN2 : Hid (cnt ks ((toks.take (i + 1)).map TokG.core) = n + (if (toks[i]).kd ∈ ks then 1 else 0)) := by
        unfold Hid
        rw [← List.take_append_getElem hlt, List.map_append, List.map_singleton, cnt_app, ← HN.out]
        rfl
      clear hcell
      generalize toks[i] = X at *
      have NX := boxA_new wr #[.int .u8 X.kd, .string X.tx, .int .i64 X.pl, .slice X.a1 X.n1 X.c1, .slice X.a2 X.n2 X.c2] 38
      have kx := below_alloc wr (.cells #[.int .u8 X.kd, .string X.tx, .int .i64 X.pl, .slice X.a1 X.n1 X.c1, .slice X.a2 X.n2 X.c2] 38)
      have m0 := NX.cell 0 rfl
      have hbx := hb.trans (kx.mono hsz)
      go_wp2_with fail
      refine (containsK_any ((HK.out.below (k1.mono hB)).below (hbx.mono (by omega))) X.kd).mono ?_
      rintro e w2 ⟨rfl, rfl⟩
      by_cases hx : X.kd ∈ ks
      · rw [decide_eq_true hx]
        have HN3 : Hid (n + 1 = cnt ks ((toks.take (i + 1)).map TokG.core)) := by unfold Hid; rw [HN2.out, if_pos hx]
        clear hx HN2 HN
        go_wp2
        go_roundw
        case rel => exact ⟨i + 1, n + 1, by go_num, by go_num, by omega, by omega, HN3, hbx⟩
        case measure => simp [intOf]; omega
      · rw [decide_eq_false hx]
        have HN3 : Hid (n = cnt ks ((toks.take (i + 1)).map TokG.core)) := by unfold Hid; rw [HN2.out, if_neg hx, Nat.add_zero]
        clear hx HN2 HN
        go_wp2
        go_roundw
        case rel => exact ⟨i + 1, n, rfl, by go_num, by omega, by omega, HN3, hbx⟩
        case measure => simp [intOf]; omega
    · have HR : Hid (n = cnt ks (allF ne s).1) := by
        unfold Hid
        rw [HN.out, List.take_of_length_le (by omega), HTk.out]
      have g1 := k1.trans (hb.mono s1)
      go_wp2
      go_ret
      exact ⟨by rw [← HR.out]; rfl, g1⟩
end Go.Proofs.YtckghnpponjmiaaGreatDoor

/- glyphref04.Count. -/
namespace Go.Proofs.YtckghnpponjmiaaGreatDoor
set_option linter.unusedVariables false
set_option linter.unusedSimpArgs false
open Go.RowKit

theorem cnt_noEnd (ks : List Int) (l : List (Int × ByteArray × Nat × Int)) : cnt ks (l.map noEnd) = cnt ks l := by
  unfold cnt
  rw [List.filter_map, List.length_map]
  congr 1
  congr 1
  funext x
  simp only [Function.comp]
  unfold noEnd
  by_cases h : x.1 = 0 ∧ x.2.2.2 = 0
  · rw [if_pos h, h.1]
  · rw [if_neg h]
theorem flat_getR {xs : List TokG} {i : Nat} (hi : i < xs.length) (k : Nat) (hk : k < 5) : (xs.flatMap TokG.cellsR)[5 * i + k]? = (xs[i]).cellsR[k]? := by
  induction xs generalizing i with
  | nil => simp at hi
  | cons x xs ih =>
    rw [List.flatMap_cons]
    cases i with
    | zero => rw [Nat.mul_zero, Nat.zero_add, List.getElem?_append_left (by simpa [TokG.cellsR] using hk)]; rfl
    | succ i =>
      rw [List.getElem?_append_right (by simp [TokG.cellsR]; omega)]
      have e : 5 * (i + 1) + k - x.cellsR.length = 5 * i + k := by simp [TokG.cellsR]; omega
      rw [e, ih (by simpa using hi)]
      rfl
/-- A slice of ints that is read. -/
def RdJ (B : Nat) (w : World) (v : Value) (ks : List Int) : Prop :=
  ∃ a cap, v = .slice a ks.length cap ∧ ks.length ≤ cap ∧ cap ≤ 9223372036854775807 ∧
    (ks.length = 0 ∨ ∃ b off, a = some ⟨b, off, none⟩ ∧ b < B ∧ ∀ j, j < ks.length → w.cell? ⟨b, off + j, none⟩ = some (.int .i64 (ks.getD j 0)))
theorem RdJ.below {B : Nat} {w w' : World} {v : Value} {ks : List Int} (h : RdJ B w v ks) (hb : Below B w w') : RdJ B w' v ks := by
  obtain ⟨a, cap, hv, h1, h2, h3⟩ := h
  refine ⟨a, cap, hv, h1, h2, ?_⟩
  rcases h3 with h3 | ⟨b, off, h4, h5, h6⟩
  · exact Or.inl h3
  · exact Or.inr ⟨b, off, h4, h5, fun j hj => (hb.cell (p := ⟨b, off + j, none⟩) h5).trans (h6 j hj)⟩
theorem refAllF_len (ne : ByteArray → Int) (s : ByteArray) : (refAllF ne s).1.length ≤ 1025 := by
  have h := congrArg List.length (allF_ref ne s).1
  rw [List.length_map, List.length_map] at h
  rw [← h]
  exact allF_len ne s

set_option maxRecDepth 100000 in
set_option maxHeartbeats 6400000 in
theorem refCount_any {B : Nat} {w : World} {v : Value} {ks : List Int} {ne : ByteArray → Int} (hne : TellsErr ne) (s : ByteArray) (hs : s.size ≤ 9223372036854775807) (h : RdJ B w v ks) (hB : B ≤ w.heap.size) (hT : Lib.Utf8Tabs 0 1 w) :
    Calls Tryz.prog 6 #[.string s, v] w fun e w' => e = .returned (.int .i64 (cnt ks (refAllF ne s).1 : Nat)) ∧ Below w.heap.size w w' := by
  have HK : Hid (RdJ B w v ks) := h
  have HL : Hid ((refAllF ne s).1.length ≤ 1025) := refAllF_len ne s
  obtain ⟨a, cap, rfl, hkk, hkc, _⟩ := h
  go_enter Tryz.func6, Tryz.ntmps6
  go_wp2_with fail
  refine (refAll_any hne s hs hT).mono ?_
  rintro e w1 ⟨v1, toks, rfl, hrow, ht, k1⟩
  obtain ⟨av, cv, rfl⟩ := row_form2 hrow
  have hlen : toks.length ≤ 1025 := by
    have := HL.out
    rw [← ht, List.length_map] at this
    exact this
  have HTk : Hid (toks.map TokG.core = (refAllF ne s).1) := ht
  have HROW : Hid (w1.ownsRow w.heap.size 44 5 (.slice av toks.length cv) toks.length (toks.flatMap TokG.cellsR)) := hrow
  have s1 := k1.size
  have HK1 : Hid (RdJ B w1 (.slice a ks.length cap) ks) := HK.out.below (k1.mono hB)
  clear ht hrow HL hne hT HK
  generalize (refAllF ne s).2.1 = ER at *
  generalize (refAllF ne s).2.2 = AT at *
  go_wp2
  go_loopw [8, 9] (fun nv iv wr => ∃ (i n : Nat), nv = .int .i64 n ∧ iv = .int .i64 i ∧ i ≤ toks.length ∧ n ≤ i ∧ Hid (n = cnt ks ((toks.take i).map TokG.core)) ∧ Below w1.heap.size w1 wr) (fun _ iv _ => toks.length - (intOf iv).toNat)
  case atStart => exact ⟨0, 0, rfl, rfl, Nat.zero_le _, Nat.le_refl _, rfl, Below.refl _ _⟩
  case round =>
    obtain ⟨i, n, rfl, rfl, hil, hni, HN, hb⟩ := hrel
    have hsz := hb.size
    by_cases hlt : i < toks.length
    · obtain ⟨g, rfl, hc1, hc2, hgl⟩ := row_ptr HROW.out (by omega)
      have HQ0 : Hid (∀ {W : World}, Below w1.heap.size w1 W → W.cell? ⟨g, i * 5, none⟩ = some (.int .i64 (toks[i]).kd)) := fun {W} hW => by
        have := HROW.out.cellAt (5 * i + 0) (by omega)
        rw [show i * 5 = 5 * i + 0 by omega, hW.cell (p := ⟨g, 5 * i + 0, none⟩) hgl, this, flat_getR hlt 0 (by omega)]
        rfl
      have HN2 : Hid (cnt ks ((toks.take (i + 1)).map TokG.core) = n + (if (toks[i]).kd ∈ ks then 1 else 0)) := by
        unfold Hid
        rw [← List.take_append_getElem hlt, List.map_append, List.map_singleton, cnt_app, ← HN.out]
        rfl
      clear HN
      generalize toks[i] = X at *
      go_wp2
      go_loopw [8, 10] (fun nv kv wv => ∃ k : Nat, nv = .int .i64 n ∧ kv = .int .i64 k ∧ k ≤ ks.length ∧ Hid (X.kd ∉ ks.take k) ∧ Below w1.heap.size w1 wv) (fun _ kv _ => ks.length - (intOf kv).toNat)
      case atStart => exact ⟨0, rfl, rfl, Nat.zero_le _, (by unfold Hid; simp), hb⟩
      case round =>
        obtain ⟨k, rfl, rfl, hkl, HNk, hb2⟩ := hrel
        by_cases hkt : k < ks.length
        · obtain ⟨b, off, rfl, hck⟩ : ∃ b off, a = some ⟨b, off, none⟩ ∧ wr.cell? ⟨b, off + k, none⟩ = some (.int .i64 (ks.getD k 0)) := by
            obtain ⟨_, _, he, _, _, h⟩ := HK1.out.below (hb2.mono (by omega))
            obtain ⟨rfl, _, rfl⟩ := Value.slice.inj he
            rcases h with h | ⟨b, off, h3, h4, h5⟩
            · omega
            · exact ⟨b, off, h3, h5 k hkt⟩
          have hq0 := HQ0.out hb2
          have hgk : ks.getD k 0 = ks[k] := by simp [List.getD, hkt]
          have HTK : Hid (ks.take (k + 1) = ks.take k ++ [ks.getD k 0] ∧ ks.getD k 0 ∈ ks) := ⟨by rw [hgk, List.take_append_getElem hkt], by rw [hgk]; exact List.getElem_mem hkt⟩
          clear hgk
          generalize ks.getD k 0 = K at *
          have hbd : Below w1.heap.size w1 wr.drew := hb2.trans ⟨rfl, rfl, rfl, Nat.le_refl _, fun _ _ => rfl⟩
          by_cases he : X.kd = K
          · have e1 : (X.kd == K) = true := by rw [beq_iff_eq]; exact he
            have HN3 : Hid (n + 1 = cnt ks ((toks.take (i + 1)).map TokG.core)) := by unfold Hid; rw [HN2.out, if_pos (by rw [he]; exact HTK.out.2)]
            clear he
            go_wp2
            go_region
            all_goals
              go_wp2
              go_roundw
              case rel => exact ⟨i + 1, n + 1, by go_num, by go_num, by omega, by omega, HN3, hbd⟩
              case measure => simp [intOf]; omega
          · have e1 : (X.kd == K) = false := by rw [beq_eq_false_iff_ne]; exact he
            have HN3 : Hid (X.kd ∉ ks.take (k + 1)) := by
              unfold Hid
              rw [HTK.out.1, List.mem_append]
              rintro (h | h)
              · exact HNk.out h
              · exact he (List.mem_singleton.1 h)
            clear he
            go_wp2
            go_region
            all_goals
              go_wp2
              go_roundw
              case rel => exact ⟨k + 1, rfl, by go_num, by omega, HN3, hbd⟩
              case measure => simp [intOf]; omega
        · have HN3 : Hid (n = cnt ks ((toks.take (i + 1)).map TokG.core)) := by
            unfold Hid
            rw [HN2.out, if_neg (by rw [← List.take_of_length_le (show ks.length ≤ k by omega)]; exact HNk.out), Nat.add_zero]
          go_wp2
          go_roundw
          case rel => exact ⟨i + 1, n, rfl, by go_num, by omega, by omega, HN3, hb2⟩
          case measure => simp [intOf]; omega
    · have HR : Hid (n = cnt ks (refAllF ne s).1) := by
        unfold Hid
        rw [HN.out, List.take_of_length_le (by omega), HTk.out]
      have g1 := k1.trans (hb.mono s1)
      go_wp2
      go_ret
      exact ⟨by rw [← HR.out]; rfl, g1⟩
end Go.Proofs.YtckghnpponjmiaaGreatDoor

/- strings.ReplaceAll of a quote by two; lex.Quote and glyphref04.Quote. -/
namespace Go.Proofs.YtckghnpponjmiaaGreatDoor
set_option linter.unusedVariables false
set_option linter.unusedSimpArgs false
open Go.RowKit

/-- Each quote twice. -/
def dbl (l : List UInt8) : List UInt8 := l.flatMap (fun b => if b = 39 then [39, 39] else [b])
theorem dbl_app (a b : List UInt8) : dbl (a ++ b) = dbl a ++ dbl b := by unfold dbl; rw [List.flatMap_append]
theorem dbl_none {l : List UInt8} (h : l.count 39 = 0) : dbl l = l := by
  induction l with
  | nil => rfl
  | cons b l ih =>
    have hb : ¬ b = 39 := fun e => by rw [e, List.count_cons_self] at h; omega
    rw [List.count_cons_of_ne hb] at h
    unfold dbl at ih ⊢
    rw [List.flatMap_cons, if_neg hb, ih h]
    rfl
theorem dbl_len (l : List UInt8) : (dbl l).length = l.length + l.count 39 := by
  induction l with
  | nil => rfl
  | cons b l ih =>
    unfold dbl at ih ⊢
    rw [List.flatMap_cons, List.length_append, ih]
    by_cases hb : b = 39
    · rw [hb, List.count_cons_self]; simp; omega
    · rw [List.count_cons_of_ne hb, if_neg hb]; simp; omega
theorem index_split : ∀ (l : List UInt8), 0 < l.count 39 → ∃ p r, l = p ++ 39 :: r ∧ p.count 39 = 0 ∧ Lib.indexByte l 39 = (p.length : Int)
  | [], h => by simp at h
  | b :: l, h => by
    by_cases hb : b = 39
    · exact ⟨[], l, by rw [hb]; rfl, rfl, by rw [hb]; rfl⟩
    · rw [List.count_cons_of_ne hb] at h
      obtain ⟨p, r, h1, h2, h3⟩ := index_split l h
      refine ⟨b :: p, r, by rw [h1]; rfl, by rw [List.count_cons_of_ne hb]; exact h2, ?_⟩
      have e : (b == 39) = false := by rw [beq_eq_false_iff_ne]; exact hb
      rw [Lib.indexByte, e, h3]
      have e2 : ((p.length : Int) == -1) = false := by rw [beq_eq_false_iff_ne]; omega
      simp [e2]
theorem bytes_drop (s : ByteArray) (i : Nat) : (s.extract i s.size).data.toList = s.data.toList.drop i := by
  rw [ByteArray.data_extract, Array.toList_extract, List.extract]
  rw [List.take_of_length_le (by simp)]
theorem bytes_cut (s : ByteArray) (i j : Nat) : (s.extract i j).data.toList = (s.data.toList.drop i).take (j - i) := by
  rw [ByteArray.data_extract, Array.toList_extract, List.extract]

set_option maxRecDepth 100000 in
set_option maxHeartbeats 6400000 in
theorem replaceQ_any (s : ByteArray) (w : World) (hs : s.size ≤ 2000000) :
    Calls Tryz.prog 18 #[.string s, .string ⟨#[39]⟩, .string ⟨#[39, 39]⟩, .int .i64 (-1)] w fun e w' => e = .returned (.string ⟨(dbl s.data.toList).toArray⟩) ∧ Below w.heap.size w w' := by
  have hcl : s.data.toList.count 39 ≤ s.size := by
    have := List.count_le_length (a := (39 : UInt8)) (l := s.data.toList)
    simpa using this
  go_enter Tryz.func18, Tryz.ntmps18
  go_wp2_with fail
  refine (Tryz.strings_Count_one s 39 _).mono ?_
  rintro e w' ⟨rfl, rfl⟩
  rw [show Lib.countByte s.data.toList 39 = s.data.toList.count 39 from rfl]
  obtain ⟨m, hm⟩ : ∃ m, s.data.toList.count 39 = m := ⟨_, rfl⟩
  have HM : Hid (s.data.toList.count 39 = m) := hm
  rw [hm] at hcl ⊢
  clear hm
  by_cases h0 : m = 0
  · have HD : Hid (⟨(dbl s.data.toList).toArray⟩ = s) := by
      unfold Hid
      rw [dbl_none (by rw [HM.out]; exact h0)]
    have e0 : ((m : Int) == 0) = true := by rw [beq_iff_eq]; omega
    clear h0
    go_wp2
    go_ret
    exact ⟨by rw [HD.out]; rfl, Below.refl _ _⟩
  have e0 : ((m : Int) == 0) = false := by rw [beq_eq_false_iff_ne]; omega
  go_wp2_with fail
  rw [show ((s.size : Int) + (m : Int)) = ((s.size + m : Nat) : Int) by omega]
  refine (Tryz.Builder_Grow_fresh w'.heap.size w'.heap.size (s.size + m) _ (Nat.le_refl _) (boxA_new w' #[.pointer none, .slice none 0 0] 78) (by simp) (by omega)).mono ?_
  rintro e w1 ⟨rfl, hBA, k1⟩
  have kb : Below w'.heap.size w' w1 := (below_alloc w' (.cells #[.pointer none, .slice none 0 0] 78)).trans k1
  have HB0 : Hid (Lib.BuilderAt 78 5 w'.heap.size w'.heap.size (.pointer (some ⟨w'.heap.size, 0, none⟩)) (Lib.byteCells (dbl (s.data.toList.take 0))) w1) := hBA
  clear hBA k1 e0 h0
  have hll : s.data.toList.length = s.size := by simp
  have hmp : (0 : Int) < ((#[(39 : UInt8)].size : Nat) : Int) := by decide
  go_wp2
  go_loopw [11, 53] (fun sv kv wr => ∃ (st k : Nat), sv = .int .i64 st ∧ kv = .int .i64 k ∧ k ≤ m ∧ st ≤ s.size ∧ Hid (k + (s.data.toList.drop st).count 39 = m) ∧ Hid (Lib.BuilderAt 78 5 w'.heap.size w'.heap.size (.pointer (some ⟨w'.heap.size, 0, none⟩)) (Lib.byteCells (dbl (s.data.toList.take st))) wr) ∧ Below w'.heap.size w' wr) (fun _ kv _ => m - (intOf kv).toNat)
  case atStart => exact ⟨0, 0, rfl, rfl, Nat.zero_le _, Nat.zero_le _, (by unfold Hid; rw [List.drop_zero, HM.out]; omega), HB0, kb⟩
  case round =>
    obtain ⟨st, k, rfl, rfl, hkm, hst, HK, HB, hb⟩ := hrel
    have hsz := hb.size
    have hdl : (dbl (s.data.toList.take st)).length ≤ s.size + m := by
      rw [dbl_len]
      have h1 := (List.take_sublist st s.data.toList).count_le (39 : UInt8)
      have h2 : (s.data.toList.take st).length ≤ s.size := by simp; omega
      rw [HM.out] at h1
      omega
    by_cases hlt : k < m
    · obtain ⟨p, r, hpr, hp0, hix⟩ := index_split (s.data.toList.drop st) (by have := HK.out; omega)
      have hlen : p.length + 1 + r.length = s.size - st := by
        have := congrArg List.length hpr
        rw [List.length_drop, hll] at this
        simp at this
        omega
      have htk : s.data.toList.take (st + p.length) = s.data.toList.take st ++ p := by
        rw [List.take_add, hpr, List.take_left]
      have htk2 : s.data.toList.take (st + p.length + 1) = s.data.toList.take st ++ p ++ [39] := by
        rw [Nat.add_assoc, List.take_add, hpr]
        rw [show p.length + 1 = (p ++ [39]).length by simp, show p ++ 39 :: r = (p ++ [39]) ++ r by simp, List.take_left, List.append_assoc]
      have hdr2 : s.data.toList.drop (st + p.length + 1) = r := by
        rw [Nat.add_assoc, ← List.drop_drop, hpr]
        rw [show p.length + 1 = (p ++ [39]).length by simp, show p ++ 39 :: r = (p ++ [39]) ++ r by simp, List.drop_left]
      have HK2 : Hid (k + 1 + (s.data.toList.drop (st + p.length + 1)).count 39 = m) := by
        unfold Hid
        have h5 := HK.out
        rw [hpr, List.count_append, hp0, List.count_cons_self] at h5
        rw [hdr2]
        omega
      have HT1 : Hid (Lib.byteCells (dbl (s.data.toList.take st)) ++ Lib.strCells (s.extract st (st + p.length)) ++ Lib.strCells ⟨#[39, 39]⟩ = Lib.byteCells (dbl (s.data.toList.take (st + p.length + 1)))) := by
        unfold Hid
        rw [Lib.strCells_eq, Lib.strCells_eq, bytes_cut, htk2, dbl_app, dbl_app, dbl_none hp0, ← Lib.byteCells_append, ← Lib.byteCells_append, hpr]
        rw [show st + p.length - st = p.length by omega, List.take_left]
        rfl
      have hix2 : Lib.indexByte (s.extract st s.size).data.toList 39 = (p.length : Int) := by rw [bytes_drop]; exact hix
      clear hpr hix htk htk2 hdr2
      go_wp2_with fail
      refine (Tryz.strings_Index_one (s.extract st s.size) 39 _).mono ?_
      rintro e w2 ⟨rfl, rfl⟩
      rw [hix2]
      clear hix2
      have hj1 : (st : Int) ≤ (st : Int) + (p.length : Int) := by omega
      have hj2 : (st : Int) + (p.length : Int) ≤ (s.size : Int) := by omega
      have hj3 : (0 : Int) ≤ (st : Int) + (p.length : Int) := by omega
      have hj4 : ((st : Int) + (p.length : Int)).toNat = st + p.length := by omega
      go_wp2_with fail
      have hq1 := writeString_any w'.heap.size w'.heap.size _ (s.extract st (st + p.length)) w2 (Or.inr HB.out) (by rw [Lib.byteCells_length, ByteArray.size_extract]; omega) (by omega)
      refine hq1.mono ?_
      clear hq1 HB
      rintro e w3 ⟨rfl, hB3, k3⟩
      have s3 := k3.size
      go_wp2_with fail
      have hq2 := writeString_any w'.heap.size w'.heap.size _ ⟨#[39, 39]⟩ w3 (Or.inr hB3) (by rw [List.length_append, Lib.byteCells_length, Lib.strCells_length, ByteArray.size_extract]; have : (⟨#[39, 39]⟩ : ByteArray).size = 2 := rfl; omega) (by omega)
      refine hq2.mono ?_
      clear hq2 hB3
      rintro e w4 ⟨rfl, hB4, k4⟩
      rw [HT1.out] at hB4
      have HB4 : Hid (Lib.BuilderAt 78 5 w'.heap.size w'.heap.size (.pointer (some ⟨w'.heap.size, 0, none⟩)) (Lib.byteCells (dbl (s.data.toList.take (st + p.length + 1)))) w4) := hB4
      have hb4 := (hb.trans k3).trans k4
      clear hB4 k3 k4 HT1 hb
      go_wp2
      go_roundw
      case rel => exact ⟨st + p.length + 1, k + 1, by go_num, by go_num, by omega, by omega, HK2, HB4, hb4⟩
      case measure => simp [intOf]; omega
    · have hc0 : (s.data.toList.drop st).count 39 = 0 := by have := HK.out; omega
      have HT1 : Hid (Lib.byteCells (dbl (s.data.toList.take st)) ++ Lib.strCells (s.extract st s.size) = Lib.byteCells (dbl s.data.toList)) := by
        unfold Hid
        rw [Lib.strCells_eq, bytes_drop, ← Lib.byteCells_append]
        congr 1
        rw [← dbl_none hc0]
        rw [dbl_none hc0]
        conv => rhs; rw [← List.take_append_drop st s.data.toList, dbl_app, dbl_none hc0]
      clear hc0
      go_wp2_with fail
      have hq1 := writeString_any w'.heap.size w'.heap.size _ (s.extract st s.size) wr (Or.inr HB.out) (by rw [Lib.byteCells_length, ByteArray.size_extract]; omega) (by omega)
      refine hq1.mono ?_
      clear hq1 HB
      rintro e w3 ⟨rfl, hB3, k3⟩
      rw [HT1.out] at hB3
      have s3 := k3.size
      go_wp2_with fail
      refine (Tryz.Builder_String_any w'.heap.size w'.heap.size (dbl s.data.toList) w3 (Or.inr hB3) (by omega)).mono ?_
      rintro e w4 ⟨rfl, k4⟩
      have hb4 := (hb.trans k3).trans k4
      clear hB3 k3 k4 HT1 hb
      go_wp2
      go_ret
      exact ⟨rfl, hb4⟩

set_option maxRecDepth 100000 in
theorem replaceAllQ_any (s : ByteArray) (w : World) (hs : s.size ≤ 2000000) :
    Calls Tryz.prog 12 #[.string s, .string ⟨#[39]⟩, .string ⟨#[39, 39]⟩] w fun e w' => e = .returned (.string ⟨(dbl s.data.toList).toArray⟩) ∧ Below w.heap.size w w' := by
  go_enter Tryz.func12, Tryz.ntmps12
  go_wp2_with fail
  refine (replaceQ_any s _ hs).mono ?_
  rintro e w1 ⟨rfl, hb⟩
  go_wp2
  go_ret
  exact ⟨rfl, hb⟩
/-- A text as a literal. -/
def quoted (s : ByteArray) : ByteArray := ⟨(39 :: (dbl s.data.toList ++ [39])).toArray⟩
set_option maxRecDepth 100000 in
theorem lexQuote_any (s : ByteArray) (w : World) (hs : s.size ≤ 2000000) :
    Calls Tryz.prog 7 #[.string s] w fun e w' => e = .returned (.string (quoted s)) ∧ Below w.heap.size w w' := by
  go_enter Tryz.func7, Tryz.ntmps7
  go_wp2_with fail
  refine (replaceAllQ_any s _ hs).mono ?_
  rintro e w1 ⟨rfl, hb⟩
  obtain ⟨D, hD⟩ : ∃ D : ByteArray, (⟨(dbl s.data.toList).toArray⟩ : ByteArray) = D := ⟨_, rfl⟩
  have HQ : Hid ((⟨#[39]⟩ : ByteArray) ++ D ++ ⟨#[39]⟩ = quoted s) := by
    unfold Hid
    rw [← hD]
    refine ByteArray.ext (Array.toList_inj.1 ?_)
    simp [quoted]
  have hDs : D.size ≤ 4000000 := by
    rw [← hD]
    have h1 : (⟨(dbl s.data.toList).toArray⟩ : ByteArray).size = (dbl s.data.toList).length := by simp [ByteArray.size]
    rw [h1, dbl_len]
    have h2 := List.count_le_length (a := (39 : UInt8)) (l := s.data.toList)
    have h3 : s.data.toList.length = s.size := by simp
    omega
  rw [hD]
  clear hD
  go_wp2
  go_ret
  exact ⟨by rw [← HQ.out]; rfl, hb⟩
set_option maxRecDepth 100000 in
set_option maxHeartbeats 1600000 in
theorem refQuote_any (s : ByteArray) (w : World) (hs : s.size ≤ 2000000) :
    Calls Tryz.prog 8 #[.string s] w fun e w' => e = .returned (.string (quoted s)) ∧ Below w.heap.size w w' := by
  have hll : s.data.toList.length = s.size := by simp
  go_enter Tryz.func8, Tryz.ntmps8
  go_wp2
  go_loopw [3, 4] (fun ov iv wr => ∃ (i : Nat) (o : ByteArray), ov = .string o ∧ iv = .int .i64 i ∧ i ≤ s.size ∧ Hid (o.data.toList = 39 :: dbl (s.data.toList.take i)) ∧ wr = w) (fun _ iv _ => s.size - (intOf iv).toNat)
  case atStart => exact ⟨0, ⟨#[39]⟩, rfl, rfl, Nat.zero_le _, rfl, rfl⟩
  case round =>
    obtain ⟨i, o, rfl, rfl, hil, HO, rfl⟩ := hrel
    have hos : o.size ≤ 5000000 := by
      have h1 := congrArg List.length HO.out
      rw [List.length_cons, dbl_len] at h1
      have h2 := List.count_le_length (a := (39 : UInt8)) (l := s.data.toList.take i)
      have h3 : (s.data.toList.take i).length ≤ s.size := by simp; omega
      have h4 : o.data.toList.length = o.size := by simp
      omega
    by_cases hlt : i < s.size
    · have hgl : s.data.toList[i]? = some (s[i]'hlt) := by simp [hlt]; rfl
      have HT : Hid (s.data.toList.take (i + 1) = s.data.toList.take i ++ [s[i]'hlt]) := by
        unfold Hid
        rw [List.take_add_one, hgl]; rfl
      have HX : Hid ((s.extract i (i + 1)).data.toList = [s[i]'hlt]) := by
        unfold Hid
        rw [bytes_cut, show i + 1 - i = 1 by omega, List.take_one, List.head?_drop, hgl]; rfl
      have h39 : ∀ b : UInt8, ((b.toNat : Int) == 39) = decide (b = 39) := fun b => by
        by_cases hb : b = 39
        · rw [hb]; rfl
        · rw [decide_eq_false hb, beq_eq_false_iff_ne]
          intro h
          exact hb (UInt8.toNat_inj.1 (by simp; omega))
      have hx := h39 (s[i]'hlt)
      clear h39
      have hi1 : (i : Int) ≤ (i : Int) + 1 := by omega
      have hi2 : (i : Int) + 1 ≤ (s.size : Int) := by omega
      have hi3 : ((i : Int) + 1).toNat = i + 1 := by omega
      obtain ⟨P, hP⟩ : ∃ P, s.extract i (i + 1) = P := ⟨_, rfl⟩
      have hPs : P.size = 1 := by rw [← hP]; simp; omega
      have HP : Hid (P.data.toList = [s[i]'hlt]) := by unfold Hid; rw [← hP]; exact HX.out
      by_cases hb : s[i]'hlt = 39
      · rw [decide_eq_true hb] at hx
        have hq1 : o.size + 1 ≤ 9223372036854775807 := by omega
        have hq2 : (o ++ (⟨#[39]⟩ : ByteArray)).size = o.size + 1 := by simp; rfl
        have HN : Hid ((o ++ (⟨#[39]⟩ : ByteArray) ++ P).data.toList = 39 :: dbl (s.data.toList.take (i + 1))) := by
          unfold Hid
          rw [HT.out, dbl_app, hb, ByteArray.data_append, ByteArray.data_append, Array.toList_append, Array.toList_append, HO.out, HP.out, hb]
          simp [dbl]
        clear hb
        go_wp2
        go_roundw
        case rel => exact ⟨i + 1, _, rfl, by go_num, by omega, HN, (by first | trivial | rfl)⟩
        case measure => simp [intOf]; omega
      · rw [decide_eq_false hb] at hx
        have HN : Hid ((o ++ P).data.toList = 39 :: dbl (s.data.toList.take (i + 1))) := by
          unfold Hid
          rw [HT.out, dbl_app, ByteArray.data_append, Array.toList_append, HO.out, HP.out]
          simp [dbl, hb]
        clear hb
        go_wp2
        go_roundw
        case rel => exact ⟨i + 1, _, rfl, by go_num, by omega, HN, (by first | trivial | rfl)⟩
        case measure => simp [intOf]; omega
    · have HN : Hid (o ++ (⟨#[39]⟩ : ByteArray) = quoted s) := by
        unfold Hid
        refine ByteArray.ext (Array.toList_inj.1 ?_)
        rw [ByteArray.data_append, Array.toList_append, HO.out, List.take_of_length_le (by omega)]
        rfl
      go_wp2
      go_ret
      exact ⟨by rw [← HN.out]; rfl, Below.refl _ _⟩
end Go.Proofs.YtckghnpponjmiaaGreatDoor

/- The walk over LexCounts. -/
namespace Go.Proofs.YtckghnpponjmiaaGreatDoor
set_option linter.unusedVariables false
set_option linter.unusedSimpArgs false
open Go.RowKit

theorem info_int : (Tryz.prog.info? 3).map (fun i => (i.zero, i.size, i.bytes)) = some (some (.int .i64 0), 1, 8) := by kernel_rfl
theorem row_rdJ {base : Nat} {w : World} {a : Option Addr} {c : Nat} {ks : List Int} (h : w.ownsRow base 3 1 (.slice a ks.length c) ks.length (ks.map (Value.int .i64))) : RdJ w.heap.size w (.slice a ks.length c) ks := by
  have hrow := h
  obtain ⟨_, h | ⟨g, cap, cur, hv, hg, hh, h1, h2, _, _⟩⟩ := h
  · obtain ⟨rfl, h3, rfl⟩ := Value.slice.inj h.1
    exact ⟨none, 0, rfl, by omega, by omega, Or.inl h3⟩
  · obtain ⟨rfl, _, rfl⟩ := Value.slice.inj hv
    refine ⟨_, c, rfl, h1, by unfold maxLen at h2; omega, Or.inr ⟨g, 0, rfl, lt_of_block hh, fun j hj => ?_⟩⟩
    have := hrow.cellAt j (by omega)
    rw [Nat.zero_add, this]
    simp [List.getD, hj]
theorem cnt_both (ne : ByteArray → Int) (s : ByteArray) (ks : List Int) : cnt ks (refAllF ne s).1 = cnt ks (allF ne s).1 := by
  rw [← cnt_noEnd ks (allF ne s).1, (allF_ref ne s).1, cnt_noEnd]

set_option maxRecDepth 100000 in
set_option maxHeartbeats 6400000 in
theorem lexCounts_walk {B : Nat} {w : World} {v : Value} {ks : List Int} (s : ByteArray) (hs : s.size ≤ 2000000) (h : RdK B w v ks) (hB : B ≤ w.heap.size) (hkl : ks.length ≤ 2000000) (hk8 : ∀ k ∈ ks, 0 ≤ k ∧ k < 256) (hT : Lib.Utf8Tabs 0 1 w) :
    Calls Tryz.prog 3 #[.string s, v] w fun e w' => e = .returned (.bool true) ∧ Below w.heap.size w w' := by
  obtain ⟨i0, hi, hz0, hz1, hz2⟩ := info_parts info_int
  obtain ⟨ne, hne⟩ := tellsErr_ex
  have HNE : Hid (TellsErr ne) := hne
  have HK : Hid (RdK B w v ks) := h
  have HT : Hid (Lib.Utf8Tabs 0 1 w) := hT
  have H8 : Hid (∀ k ∈ ks, 0 ≤ k ∧ k < 256) := hk8
  obtain ⟨a, cap, rfl, hkk, hkc, _⟩ := h
  clear hne hT hk8
  go_enter Tryz.func3, Tryz.ntmps3
  go_wp2
  go_loopw [5, 6] (fun lv iv wr => ∃ (i : Nat) (al : Option Addr) (cl : Nat), lv = .slice al i cl ∧ iv = .int .i64 i ∧ i ≤ ks.length ∧ Hid (wr.ownsRow w.heap.size 3 1 (.slice al i cl) i ((ks.take i).map (Value.int .i64))) ∧ Below w.heap.size w wr) (fun _ iv _ => ks.length - (intOf iv).toNat)
  case atStart => exact ⟨0, none, 0, rfl, rfl, Nat.zero_le _, World.ownsRow_nil _ _ _ _, Below.refl _ _⟩
  case round =>
    obtain ⟨i, al, cl, rfl, rfl, hil, HO, hb⟩ := hrel
    have hsz := hb.size
    by_cases hlt : i < ks.length
    · obtain ⟨b, off, rfl, hck⟩ : ∃ b off, a = some ⟨b, off, none⟩ ∧ wr.cell? ⟨b, off + i, none⟩ = some (.int .u8 (ks.getD i 0)) := by
        obtain ⟨_, _, he, _, _, h⟩ := HK.out.below (hb.mono hB)
        obtain ⟨rfl, _, rfl⟩ := Value.slice.inj he
        rcases h with h | ⟨b, off, h3, h4, h5⟩
        · omega
        · exact ⟨b, off, h3, h5 i hlt⟩
      have hgk : ks.getD i 0 = ks[i] := by simp [List.getD, hlt]
      have HTK : Hid ((ks.take (i + 1)).map (Value.int .i64) = (ks.take i).map (Value.int .i64) ++ [.int .i64 (ks.getD i 0)]) := by
        unfold Hid
        rw [hgk, ← List.take_append_getElem hlt, List.map_append]; rfl
      have h8 := H8.out (ks.getD i 0) (by rw [hgk]; exact List.getElem_mem hlt)
      clear hgk
      generalize ks.getD i 0 = K at *
      have hO := HO.out
      go_wp2_with (at_builtin; refine wpList_append_own _ rfl _ _ 23 rfl w.heap.size 3 i0 (.int .i64 0) 1 8 Tryz.underlying23 hi hz0 hz1 hz2 rfl (by decide) _ _ _ rfl (hO.alloc _) ⟨_, 0, none⟩ 1 1 [.int .i64 K] rfl rfl ?c1 ?c2 ?c3 ?c4 ?c5 ?_)
      case c1 =>
        intro j u hj
        match j, hj with
        | 0, hj => simp at hj; subst hj; simp [Addr.add]
      case c2 => intro u hu; simp at hu; subst hu; rfl
      case c3 => unfold maxLen; omega
      case c4 => omega
      case c5 => simp; omega
      intro v' w1 hown' hgrow _
      obtain ⟨g', cap', rfl⟩ := row_form hown'
      have hrow : ∀ k, (Value.slice al i cl).ownBlock = some k → w.heap.size ≤ k := fun k hk => (hO.lt k hk).1
      have hb3 : Below w.heap.size w w1 := (hb.alloc (by omega) _).grown hgrow (by simp; omega) (fun k hk => hrow k hk)
      have HO2 : Hid (w1.ownsRow w.heap.size 3 1 (.slice (some ⟨g', 0, none⟩) (i + 1) cap') (i + 1) ((ks.take (i + 1)).map (Value.int .i64))) := by
        unfold Hid
        rw [HTK.out, List.map_take]; exact hown'
      clear hown' hgrow hO hrow HO HTK
      go_wp2
      go_roundw
      case rel => exact ⟨i + 1, some ⟨g', 0, none⟩, cap', rfl, by go_num, by omega, HO2, hb3⟩
      case measure => simp [intOf]; omega
    · obtain rfl : i = ks.length := by omega
      have HJ : Hid (RdJ wr.heap.size wr (.slice al ks.length cl) ks) := by
        have := HO.out
        rw [List.take_length] at this
        exact row_rdJ this
      have HK2 := HK.out.below (hb.mono hB)
      have HT2 : Hid (Lib.Utf8Tabs 0 1 wr) := Utf8Tabs.to HT.out hb (Nat.le_refl _)
      clear HO HK HT
      go_wp2_with fail
      refine (live_lex _).mono ?_
      rintro e w2 ⟨rfl, k2⟩
      have s2 := k2.size
      go_wp2_with fail
      refine (lexCount_any HNE.out s (by omega) (HK2.below (k2.mono (by omega))) (by omega)).mono ?_
      rintro e w3 ⟨rfl, k3⟩
      have s3 := k3.size
      have k23 := k2.trans (k3.mono s2)
      go_wp2_with fail
      refine (refCount_any HNE.out s (by omega) (HJ.out.below k23) (by omega) (Utf8Tabs.to HT2.out k23 (Nat.le_refl _))).mono ?_
      rintro e w4 ⟨rfl, k4⟩
      have s4 := k4.size
      rw [cnt_both]
      generalize cnt ks (allF ne s).1 = N at *
      have hnn : ((N : Int) == (N : Int)) = true := beq_self_eq_true _
      go_wp2_with fail
      refine (lexQuote_any s _ hs).mono ?_
      rintro e w5 ⟨rfl, k5⟩
      have s5 := k5.size
      go_wp2_with fail
      refine (refQuote_any s _ hs).mono ?_
      rintro e w6 ⟨rfl, k6⟩
      generalize quoted s = QS at *
      have gf : Below w.heap.size w w6 := (((hb.trans (k23.mono hsz)).trans (k4.mono (by omega))).trans (k5.mono (by omega))).trans (k6.mono (by omega))
      clear hb k2 k3 k23 k4 k5 k6
      go_wp2
      go_ret
      exact ⟨rfl, gf⟩
end Go.Proofs.YtckghnpponjmiaaGreatDoor
