/- glyphref04.All at any line. -/
import Derived.Test.YtflohhdaijlflaaGreatDoorJB
import Derived.Test.YtflohhdaijlflaaGreatDoorJC
import Derived.Test.YtflohhdaijlflaaGreatDoorJA
namespace Go.Proofs.YtflohhdaijlflaaGreatDoor
set_option linter.unusedVariables false
set_option linter.unusedSimpArgs false
open Go.RowKit

def TokG.cellsR (x : TokG) : List Value := [.int .i64 x.kd, .string x.tx, .int .i64 x.pl, .slice x.a1 x.n1 x.c1, .slice x.a2 x.n2 x.c2]
/-- The document's tokens of a line from a place on, then the end or an error. -/
def refItemsF (ne : ByteArray → Int) (cs : List Int) : Nat → Nat → List (Int × ByteArray × Nat × Int)
  | 0, _ => []
  | f + 1, i => if i < cs.length ∧ ¬ cs.getD i 0 = 9053 then
      if bl (cs.getD i 0) = true then refItemsF ne cs f (i + 1)
      else if (nextF ne cs i).2.2 = 0 then ((nextF ne cs i).1, cutText cs i (nextF ne cs i).2.1, i, 0) :: refItemsF ne cs f (nextF ne cs i).2.1
      else [(0, ⟨#[]⟩, i, (nextF ne cs i).2.2)]
    else [(0, ⟨#[]⟩, i, 0)]
def refItems (ne : ByteArray → Int) (cs : List Int) : List (Int × ByteArray × Nat × Int) := refItemsF ne cs (cs.length + 1) 0
def refAllF (ne : ByteArray → Int) (s : ByteArray) : List (Int × ByteArray × Nat × Int) × Int × Nat :=
  if 1024 < s.size then ([], 25, 0)
  else if ¬ (scanR s s.size 0 []).2.1 = 0 then ([], (scanR s s.size 0 []).2)
  else if (lastEr (refItems ne (scanR s s.size 0 []).1)).1 = 0 then (refItems ne (scanR s s.size 0 []).1, 0, 0) else ([], lastEr (refItems ne (scanR s s.size 0 []).1))
def RefAllIs (w : World) (ne : ByteArray → Int) (s : ByteArray) (e : Ending) (w' : World) : Prop :=
  ∃ (v : Value) (toks : List TokG), e = .returned (.tuple #[v, .int .i64 (refAllF ne s).2.1, .int .i64 (((refAllF ne s).2.2 : Nat) : Int)]) ∧ w'.ownsRow w.heap.size 46 5 v toks.length (toks.flatMap TokG.cellsR) ∧ toks.map TokG.core = (refAllF ne s).1 ∧ Below w.heap.size w w'

theorem scanR_at (s : ByteArray) : ∀ (f pos : Nat) (acc : List Int), (scanR s f pos acc).2.1 = 0 → (scanR s f pos acc).2.2 = 0
  | 0, pos, acc, h => rfl
  | f + 1, pos, acc, h => by
    rw [scanR] at h ⊢
    by_cases hp : pos < s.size
    · rw [if_pos hp] at h ⊢
      by_cases hb : (Utf8.decode s pos).1 = 65533 ∧ (Utf8.decode s pos).2 = 1
      · rw [if_pos hb] at h; simp at h
      · rw [if_neg hb] at h ⊢; exact scanR_at s f _ _ h
    · rw [if_neg hp]
theorem info_rtok : (Tryz.prog.info? 46).map (fun i => (i.zero, i.size, i.bytes)) = some (some (.agg #[.int .i64 0, .string ⟨#[]⟩, .int .i64 0, .slice none 0 0, .slice none 0 0]), 5, 80) := by kernel_rfl

/-- A token, but of the end only that it is one. -/
def noEnd (x : Int × ByteArray × Nat × Int) : Int × ByteArray × Nat × Int := if x.1 = 0 ∧ x.2.2.2 = 0 then (0, ⟨#[]⟩, 0, 0) else x
theorem runEnd_step {p : Int → Bool} {cs : List Int} {i : Nat} (hi : i < cs.length) (h : p (cs.getD i 0) = true) : runEnd p cs i = runEnd p cs (i + 1) := by
  have e : cs.getD i 0 = cs[i] := by simp [List.getD, hi]
  rw [e] at h
  unfold runEnd
  rw [List.drop_eq_getElem_cons hi, List.takeWhile_cons, if_pos h, List.length_cons]
  omega
theorem runEnd_stop {p : Int → Bool} {cs : List Int} {i : Nat} (hi : i < cs.length) (h : p (cs.getD i 0) = false) : runEnd p cs i = i := by
  have e : cs.getD i 0 = cs[i] := by simp [List.getD, hi]
  rw [e] at h
  unfold runEnd
  rw [List.drop_eq_getElem_cons hi, List.takeWhile_cons, if_neg (by rw [h]; simp)]
  simp
/-- Both ways of passing blanks and remarks tell the same tokens. -/
theorem items_ref (ne : ByteArray → Int) (cs : List Int) : ∀ (n i f g : Nat), cs.length - i ≤ n → i ≤ cs.length → cs.length < passTo cs i + f → cs.length < i + g → (itemsF ne cs f (passTo cs i)).map noEnd = (refItemsF ne cs g i).map noEnd := by
  intro n
  induction n with
  | zero =>
    intro i f g hn hi hf hg
    obtain rfl : i = cs.length := by omega
    rw [passTo_end] at hf ⊢
    obtain ⟨f, rfl⟩ : ∃ k, f = k + 1 := ⟨f - 1, by omega⟩
    obtain ⟨g, rfl⟩ : ∃ k, g = k + 1 := ⟨g - 1, by omega⟩
    rw [itemsF, if_neg (by omega), refItemsF, if_neg (by omega)]
  | succ n ih =>
    intro i f g hn hi hf hg
    obtain ⟨g, rfl⟩ : ∃ k, g = k + 1 := ⟨g - 1, by omega⟩
    by_cases hil : i < cs.length
    · by_cases h9 : cs.getD i 0 = 9053
      · have hb : bl (cs.getD i 0) = false := by rw [h9]; decide
        have e : passTo cs i = cs.length := by
          unfold passTo
          rw [runEnd_stop hil hb, if_pos ⟨hil, h9⟩]
        rw [e] at hf ⊢
        obtain ⟨f, rfl⟩ : ∃ k, f = k + 1 := ⟨f - 1, by omega⟩
        rw [itemsF, if_neg (by omega), refItemsF, if_neg (fun h => h.2 h9)]
        simp [noEnd]
      · rw [refItemsF, if_pos ⟨hil, h9⟩]
        by_cases hb : bl (cs.getD i 0) = true
        · have e : passTo cs i = passTo cs (i + 1) := by
            unfold passTo
            rw [runEnd_step hil hb]
          rw [if_pos hb, e]
          rw [e] at hf
          exact ih (i + 1) f g (by omega) (by omega) hf (by omega)
        · have e : passTo cs i = i := by
            unfold passTo
            rw [runEnd_stop hil (by simpa using hb), if_neg (fun h => h9 h.2)]
          rw [if_neg hb, e]
          rw [e] at hf
          obtain ⟨f, rfl⟩ : ∃ k, f = k + 1 := ⟨f - 1, by omega⟩
          rw [itemsF, if_pos hil]
          by_cases h0 : (nextF ne cs i).2.2 = 0
          · have hj := nextF_end ne cs i hil h0
            have hp := passTo_le hj.2
            rw [if_pos h0, if_pos h0, List.map_cons, List.map_cons, ih (nextF ne cs i).2.1 f g (by omega) hj.2 (by omega) (by omega)]
          · rw [if_neg h0, if_neg h0]
    · obtain rfl : i = cs.length := by omega
      rw [passTo_end] at hf ⊢
      obtain ⟨f, rfl⟩ : ∃ k, f = k + 1 := ⟨f - 1, by omega⟩
      rw [itemsF, if_neg (by omega), refItemsF, if_neg (by omega)]
theorem items_same (ne : ByteArray → Int) (cs : List Int) : (items ne cs).map noEnd = (refItems ne cs).map noEnd :=
  items_ref ne cs cs.length 0 _ _ (by omega) (by omega) (by omega) (by omega)
theorem lastEr_noEnd (l : List (Int × ByteArray × Nat × Int)) : (lastEr (l.map noEnd)).1 = (lastEr l).1 ∧ (¬ (lastEr l).1 = 0 → lastEr (l.map noEnd) = lastEr l) := by
  unfold lastEr
  rw [List.getLast?_map]
  cases l.getLast? with
  | none => exact ⟨rfl, fun h => absurd rfl h⟩
  | some x =>
    simp only [Option.map_some]
    unfold noEnd
    by_cases hx : x.1 = 0 ∧ x.2.2.2 = 0
    · rw [if_pos hx]
      exact ⟨hx.2.symm, fun h => absurd hx.2 h⟩
    · rw [if_neg hx]
      exact ⟨rfl, fun _ => rfl⟩
/-- The program's tokens are the document's, all but the end's place; so are errors and their places. -/
theorem allF_ref (ne : ByteArray → Int) (s : ByteArray) : (allF ne s).1.map noEnd = (refAllF ne s).1.map noEnd ∧ (allF ne s).2 = (refAllF ne s).2 := by
  unfold allF refAllF
  by_cases h1 : 1024 < s.size
  · rw [if_pos h1, if_pos h1]; exact ⟨rfl, rfl⟩
  rw [if_neg h1, if_neg h1]
  by_cases h2 : ¬ (scanR s s.size 0 []).2.1 = 0
  · rw [if_pos h2, if_pos h2]; exact ⟨rfl, rfl⟩
  rw [if_neg h2, if_neg h2]
  have hs := items_same ne (scanR s s.size 0 []).1
  have h3 := lastEr_noEnd (items ne (scanR s s.size 0 []).1)
  have h4 := lastEr_noEnd (refItems ne (scanR s s.size 0 []).1)
  rw [hs] at h3
  by_cases h5 : (lastEr (items ne (scanR s s.size 0 []).1)).1 = 0
  · rw [if_pos h5, if_pos (by rw [← h4.1, h3.1, h5])]
    exact ⟨hs, rfl⟩
  · have h6 : ¬ (lastEr (refItems ne (scanR s s.size 0 []).1)).1 = 0 := by rw [← h4.1, h3.1]; exact h5
    rw [if_neg h5, if_neg h6]
    exact ⟨rfl, by rw [← h3.2 h5, ← h4.2 h6]⟩
theorem refItemsF_len (ne : ByteArray → Int) (cs : List Int) : ∀ f i, (refItemsF ne cs f i).length ≤ f
  | 0, i => by simp [refItemsF]
  | f + 1, i => by
    rw [refItemsF]
    by_cases h1 : i < cs.length ∧ ¬ cs.getD i 0 = 9053
    · rw [if_pos h1]
      by_cases hb : bl (cs.getD i 0) = true
      · rw [if_pos hb]; have := refItemsF_len ne cs f (i + 1); omega
      · rw [if_neg hb]
        by_cases h2 : (nextF ne cs i).2.2 = 0
        · rw [if_pos h2]
          have := refItemsF_len ne cs f (nextF ne cs i).2.1
          simp; omega
        · rw [if_neg h2]; simp
    · rw [if_neg h1]; simp

theorem row_below {W W' : World} {base B e size n : Nat} {v : Value} {xs : List Value} (h : W.ownsRow base e size v n xs) (hb : Below B W W') (hB : W.heap.size ≤ B) : W'.ownsRow base e size v n xs := by
  obtain ⟨h1, h | ⟨g, cap, cur, hv, hg, hh, r⟩⟩ := h
  · exact ⟨h1, Or.inl h⟩
  · exact ⟨h1, Or.inr ⟨g, cap, cur, hv, hg, by rw [hb.block g (Nat.lt_of_lt_of_le (lt_of_block hh) hB)]; exact hh, r⟩⟩
theorem bl_cases (c : Int) : bl c = true ↔ c = 32 ∨ c = 9 := by unfold bl; simp
set_option maxRecDepth 100000 in
set_option maxHeartbeats 16000000 in
theorem refAll_any {w : World} {ne : ByteArray → Int} (hne : TellsErr ne) (s : ByteArray) (hs : s.size ≤ 9223372036854775807) (hT : Lib.Utf8Tabs 0 1 w) :
    Calls Tryz.prog 10 #[.string s] w fun e w' => RefAllIs w ne s e w' := by
  have HNE : Hid (TellsErr ne) := hne
  have HT : Hid (Lib.Utf8Tabs 0 1 w) := hT
  clear hne hT
  obtain ⟨i0, hi, hz0, hz1, hz2⟩ := info_parts info_rtok
  go_enter Tryz.func10, Tryz.ntmps10
  by_cases hbig : 1024 < s.size
  · have HF : Hid (refAllF ne s = ([], 25, 0)) := by unfold Hid refAllF; rw [if_pos hbig]
    have hd13 : decide ((1024 : Int) < ((s.size : Nat) : Int)) = true := by simp; omega
    go_wp2
    refine bodyPost_ret (v := .tuple #[.slice none 0 0, .int .i64 25, .int .i64 0]) (by simp [results, Tryz.results10, go_sem]) rfl ?_
    exact ⟨.slice none 0 0, [], by rw [HF.out]; rfl, World.ownsRow_nil _ _ _ _, by rw [HF.out]; rfl, Below.refl _ _⟩
  have hd13 : decide ((1024 : Int) < ((s.size : Nat) : Int)) = false := by simp; omega
  go_wp2_with fail
  refine (refRunes_any s _ (by omega) HT.out).mono ?_
  rintro e w1 ⟨cs, a, c, er, at', rfl, hO, HD, k1⟩
  have s1 := k1.size
  by_cases her : er = 0
  case neg =>
    have HF : Hid (refAllF ne s = ([], er, at')) := by unfold Hid refAllF; rw [if_neg hbig, HD.out, if_pos her]
    have he0 : (er == 0) = false := by rw [beq_eq_false_iff_ne]; exact her
    go_wp2
    refine bodyPost_ret (v := .tuple #[.slice none 0 0, .int .i64 er, .int .i64 ((at' : Nat) : Int)]) (by simp [results, Tryz.results10, go_sem]) rfl ?_
    exact ⟨.slice none 0 0, [], by rw [HF.out], World.ownsRow_nil _ _ _ _, by rw [HF.out]; rfl, k1⟩
  subst her
  obtain rfl : at' = 0 := by
    have := scanR_at s s.size 0 []
    rw [HD.out] at this
    exact this rfl
  have HF0 : Hid (refAllF ne s = if (lastEr (refItems ne cs)).1 = 0 then (refItems ne cs, 0, 0) else ([], lastEr (refItems ne cs))) := by
    unfold Hid refAllF
    rw [if_neg hbig, HD.out]
    rfl
  have hcl : cs.length ≤ 1024 := by
    have := scanR_len s s.size 0 [] (by simp) (by omega)
    rw [HD.out] at this
    simp only at this
    omega
  have HRD : Hid (RdR w1.heap.size w1 (.slice a cs.length c) cs) := hO.rdR
  have HLEN : Hid (∀ f i, (refItemsF ne cs f i).length ≤ f) := refItemsF_len ne cs
  clear HD hs hO hbig hd13
  go_wp2
  go_loopw [7, 8] (fun av ov wr => ∃ (i f : Nat) (pre : List TokG) (ao : Option Addr) (co : Nat), av = .int .i64 i ∧ ov = .slice ao pre.length co ∧ wr.ownsRow w1.heap.size 46 5 (.slice ao pre.length co) pre.length (pre.flatMap TokG.cellsR) ∧ Hid (pre.map TokG.core ++ refItemsF ne cs f i = refItems ne cs) ∧ Hid (∀ x ∈ pre, x.er = 0) ∧ i ≤ cs.length ∧ cs.length < i + f ∧ pre.length ≤ i ∧ Below w1.heap.size w1 wr) (fun av _ _ => cs.length - (intOf av).toNat)
  case atStart => exact ⟨0, cs.length + 1, [], none, 0, rfl, rfl, World.ownsRow_nil _ _ _ _, rfl, (fun x h => by cases h), by omega, by omega, by simp, Below.refl _ _⟩
  case round =>
    obtain ⟨i, f, pre, ao, co, rfl, rfl, hO, HI, HE, hile, hfu, hpl, hb⟩ := hrel
    obtain ⟨f, rfl⟩ : ∃ f', f = f' + 1 := ⟨f - 1, by omega⟩
    have hsz := hb.size
    by_cases hgo : i < cs.length ∧ ¬ cs.getD i 0 = 9053
    · obtain ⟨hil, h9⟩ := hgo
      obtain ⟨b, off, rfl, hbl, hk, hcap, hcc⟩ : ∃ b off, a = some ⟨b, off, none⟩ ∧ b < w1.heap.size ∧ cs.length ≤ c ∧ c ≤ 9223372036854775807 ∧ ∀ j, j < cs.length → wr.cell? ⟨b, off + j, none⟩ = some (.int .i32 (cs.getD j 0)) := by
        obtain ⟨_, _, he, h1, h2, h⟩ := HRD.out.below hb
        obtain ⟨rfl, _, rfl⟩ := Value.slice.inj he
        rcases h with h | ⟨b, off, h3, h4, h5⟩
        · omega
        · exact ⟨b, off, h3, h4, h1, h2, h5⟩
      have hci := hcc i hil
      have HCC : Hid (∀ j, j < cs.length → wr.cell? ⟨b, off + j, none⟩ = some (.int .i32 (cs.getD j 0))) := hcc
      clear hcc
      have e9 : (cs.getD i 0 == 9053) = false := by rw [beq_eq_false_iff_ne]; exact h9
      by_cases hbk : bl (cs.getD i 0) = true
      · have HS : Hid (pre.map TokG.core ++ refItemsF ne cs f (i + 1) = refItems ne cs) := by
          unfold Hid
          rw [← HI.out, refItemsF, if_pos ⟨hil, h9⟩, if_pos hbk]
        have hb2 := (bl_cases _).1 hbk
        clear hbk h9 HI HCC
        generalize cs.getD i 0 = D at *
        rcases hb2 with rfl | rfl
        case' inl => skip
        case' inr => skip
        all_goals
          go_wp2
          go_roundw
          case rel => exact ⟨i + 1, f, pre, ao, co, by go_num, rfl, hO, HS, HE, by omega, by omega, by omega, hb⟩
          case measure => simp [intOf]; omega
      have e32 : (cs.getD i 0 == 32) = false := by rw [beq_eq_false_iff_ne]; exact fun h => hbk ((bl_cases _).2 (Or.inl h))
      have e8 : (cs.getD i 0 == 9) = false := by rw [beq_eq_false_iff_ne]; exact fun h => hbk ((bl_cases _).2 (Or.inr h))
      have HI2 : Hid (pre.map TokG.core ++ (if (nextF ne cs i).2.2 = 0 then ((nextF ne cs i).1, cutText cs i (nextF ne cs i).2.1, i, (0 : Int)) :: refItemsF ne cs f (nextF ne cs i).2.1 else [((0 : Int), (⟨#[]⟩ : ByteArray), i, (nextF ne cs i).2.2)]) = refItems ne cs) := by
        unfold Hid
        rw [← HI.out, refItemsF, if_pos (show i < cs.length ∧ ¬ cs.getD i 0 = 9053 from ⟨hil, h9⟩), if_neg hbk]
      clear h9 hbk HI
      generalize cs.getD i 0 = D at *
      go_wp2_with fail
      refine (refNext_any HNE.out i hil (by omega) hk hcap HCC.out (by omega)).mono ?_
      rintro e w2 (⟨h0, a1, n1, c1, a2, n2, c2, rfl, k2⟩ | ⟨h0, rfl, k2⟩)
      · have hje := nextF_end ne cs i hil h0
        have HI3 : Hid (pre.map TokG.core ++ ((nextF ne cs i).1, cutText cs i (nextF ne cs i).2.1, i, (0 : Int)) :: refItemsF ne cs f (nextF ne cs i).2.1 = refItems ne cs) := by
          unfold Hid
          rw [← HI2.out, if_pos h0]
        clear h0 HI2
        generalize (nextF ne cs i).1 = KD at *
        generalize (nextF ne cs i).2.1 = j at *
        generalize cutText cs i j = TX at *
        have k3 := below_alloc w2 (.cells #[.int .i64 KD, .string TX, .int .i64 i, .slice a1 n1 c1, .slice a2 n2 c2] 46)
        have Tk := boxA_new w2 #[.int .i64 KD, .string TX, .int .i64 i, .slice a1 n1 c1, .slice a2 n2 c2] 46
        have s2 := k2.size
        have hO2 := (row_below hO k2 (Nat.le_refl _)).alloc (.cells #[.int .i64 KD, .string TX, .int .i64 i, .slice a1 n1 c1, .slice a2 n2 c2] 46)
        have hb2 := (hb.trans (k2.mono hsz)).trans (k3.mono (by omega))
        have m0 := Tk.cell 0 rfl
        have m1 := Tk.cell 1 rfl
        have m2 := Tk.cell 2 rfl
        have m3 := Tk.cell 3 rfl
        have m4 := Tk.cell 4 rfl
        clear hO hb k2
        go_wp2_with (at_builtin; refine wpList_append_own _ rfl _ _ 42 rfl w1.heap.size 46 i0 (.agg #[.int .i64 0, .string ⟨#[]⟩, .int .i64 0, .slice none 0 0, .slice none 0 0]) 5 80 Tryz.underlying42 hi hz0 hz1 hz2 rfl (by decide) _ _ _ rfl (hO2.alloc _) ⟨_, 0, none⟩ 1 1 (TokG.cellsR ⟨KD, TX, i, 0, a1, n1, c1, a2, n2, c2⟩) rfl rfl ?c1 ?c2 ?c3 ?c4 ?c5 ?_)
        case c1 =>
          intro j u hj
          have NX := boxA_new (w2.alloc (.cells #[.int .i64 KD, .string TX, .int .i64 i, .slice a1 n1 c1, .slice a2 n2 c2] 46)) #[.int .i64 KD, .string TX, .int .i64 i, .slice a1 n1 c1, .slice a2 n2 c2] 46
          (try rw [World.size_alloc] at NX)
          match j, hj with
          | 0, hj => simp [TokG.cellsR] at hj; subst hj; exact NX.cell 0 rfl
          | 1, hj => simp [TokG.cellsR] at hj; subst hj; exact NX.cell 1 rfl
          | 2, hj => simp [TokG.cellsR] at hj; subst hj; exact NX.cell 2 rfl
          | 3, hj => simp [TokG.cellsR] at hj; subst hj; exact NX.cell 3 rfl
          | 4, hj => simp [TokG.cellsR] at hj; subst hj; exact NX.cell 4 rfl
          | j + 5, hj => simp [TokG.cellsR] at hj
        case c2 =>
          intro u hu
          simp [TokG.cellsR] at hu
          rcases hu with rfl | rfl | rfl | rfl | rfl <;> rfl
        case c3 => unfold maxLen; omega
        case c4 => omega
        case c5 => simp; omega
        intro v' w3 hown' hgrow _
        obtain ⟨g', cap', rfl⟩ := row_form hown'
        have hrow : ∀ k, (Value.slice ao pre.length co).ownBlock = some k → w1.heap.size ≤ k := fun k hk => (hO2.lt k hk).1
        have hb3 : Below w1.heap.size w1 w3 := (hb2.alloc (by simp; omega) _).grown hgrow (by simp; omega) (fun k hk => hrow k hk)
        have HE2 : Hid (∀ x ∈ pre ++ [(⟨KD, TX, i, 0, a1, n1, c1, a2, n2, c2⟩ : TokG)], x.er = 0) := fun x hx => by
          rcases List.mem_append.1 hx with hx | hx
          · exact HE.out x hx
          · rw [List.mem_singleton.1 hx]
        clear hgrow hO2 hb2 hrow m0 m1 m2 m3 m4 Tk k3
        go_wp2
        go_roundw
        case rel => exact ⟨j, f, pre ++ [⟨KD, TX, i, 0, a1, n1, c1, a2, n2, c2⟩], some ⟨g', 0, none⟩, cap', rfl, (by simp), (by simpa using hown'), (by unfold Hid; rw [List.map_append, List.append_assoc]; exact HI3.out), HE2, by omega, by omega, (by simp; omega), hb3⟩
        case measure => simp [intOf]; omega
      · have he0 : ((nextF ne cs i).2.2 == 0) = false := by rw [beq_eq_false_iff_ne]; exact h0
        have HF : Hid (refAllF ne s = ([], (nextF ne cs i).2.2, i)) := by
          unfold Hid
          rw [HF0.out, ← HI2.out, if_neg h0, lastEr_app, if_neg h0]
        clear h0 HI2
        generalize (nextF ne cs i).2.2 = ER at *
        have k3 := below_alloc w2 (.cells #[.int .i64 0, .string ⟨#[]⟩, .int .i64 0, .slice none 0 0, .slice none 0 0] 46)
        have s2 := k2.size
        have hb2 := (hb.trans (k2.mono hsz)).trans (k3.mono (by omega))
        go_wp2
        refine bodyPost_ret (v := .tuple #[.slice none 0 0, .int .i64 ER, .int .i64 i]) (by simp [results, Tryz.results10, go_sem]) rfl ?_
        exact ⟨.slice none 0 0, [], by rw [HF.out], World.ownsRow_nil _ _ _ _, by rw [HF.out]; rfl, k1.trans (hb2.mono s1)⟩
    · have HI2 : Hid (pre.map TokG.core ++ [((0 : Int), (⟨#[]⟩ : ByteArray), i, (0 : Int))] = refItems ne cs) := by
        unfold Hid
        rw [← HI.out, refItemsF, if_neg hgo]
      have HF : Hid (refAllF ne s = (refItems ne cs, 0, 0)) := by
        unfold Hid
        rw [HF0.out, if_pos]
        rw [← HI2.out]
        refine lastEr_zero (fun x hx => ?_)
        rcases List.mem_append.1 hx with hx | hx
        · obtain ⟨y, hy, rfl⟩ := List.mem_map.1 hx
          exact HE.out y hy
        · rw [List.mem_singleton.1 hx]
      clear HI
      by_cases hil : i < cs.length
      case' pos =>
        obtain ⟨b, off, rfl, hci⟩ : ∃ b off, a = some ⟨b, off, none⟩ ∧ wr.cell? ⟨b, off + i, none⟩ = some (.int .i32 (cs.getD i 0)) := by
          obtain ⟨_, _, he, h1, h2, h⟩ := HRD.out.below hb
          obtain ⟨rfl, _, rfl⟩ := Value.slice.inj he
          rcases h with h | ⟨b, off, h3, h4, h5⟩
          · omega
          · exact ⟨b, off, h3, h5 i hil⟩
        obtain ⟨_, cc, _, hck, hcm, _⟩ := HRD.out
        have e9 : (cs.getD i 0 == 9053) = true := by
          rw [beq_iff_eq]
          by_cases h9 : cs.getD i 0 = 9053
          · exact h9
          · exact absurd ⟨hil, h9⟩ hgo
        clear hgo
        generalize cs.getD i 0 = D at *
      case' neg => clear hgo
      all_goals
        go_wp2_with (at_builtin; refine wpList_append_own _ rfl _ _ 42 rfl w1.heap.size 46 i0 (.agg #[.int .i64 0, .string ⟨#[]⟩, .int .i64 0, .slice none 0 0, .slice none 0 0]) 5 80 Tryz.underlying42 hi hz0 hz1 hz2 rfl (by decide) _ _ _ rfl (hO.alloc _) ⟨_, 0, none⟩ 1 1 (TokG.cellsR ⟨0, ⟨#[]⟩, i, 0, none, 0, 0, none, 0, 0⟩) rfl rfl ?c1 ?c2 ?c3 ?c4 ?c5 ?_)
        case c1 =>
          intro j u hj
          have NX := boxA_new wr #[.int .i64 0, .string ⟨#[]⟩, .int .i64 i, .slice none 0 0, .slice none 0 0] 46
          (try rw [World.size_alloc] at NX)
          match j, hj with
          | 0, hj => simp [TokG.cellsR] at hj; subst hj; exact NX.cell 0 rfl
          | 1, hj => simp [TokG.cellsR] at hj; subst hj; exact NX.cell 1 rfl
          | 2, hj => simp [TokG.cellsR] at hj; subst hj; exact NX.cell 2 rfl
          | 3, hj => simp [TokG.cellsR] at hj; subst hj; exact NX.cell 3 rfl
          | 4, hj => simp [TokG.cellsR] at hj; subst hj; exact NX.cell 4 rfl
          | j + 5, hj => simp [TokG.cellsR] at hj
        case c2 =>
          intro u hu
          simp [TokG.cellsR] at hu
          rcases hu with rfl | rfl | rfl | rfl | rfl <;> rfl
        case c3 => unfold maxLen; omega
        case c4 => omega
        case c5 => simp; omega
        intro v' w3 hown' hgrow _
        obtain ⟨g', cap', rfl⟩ := row_form hown'
        have hrow : ∀ k, (Value.slice ao pre.length co).ownBlock = some k → w1.heap.size ≤ k := fun k hk => (hO.lt k hk).1
        have hb3 : Below w1.heap.size w1 w3 := (hb.alloc (by omega) _).grown hgrow (by simp; omega) (fun k hk => hrow k hk)
        go_wp2
        refine bodyPost_ret (v := .tuple #[.slice (some ⟨g', 0, none⟩) (pre.length + 1) cap', .int .i64 0, .int .i64 0]) (by simp [results, Tryz.results10, go_sem]) rfl ?_
        refine ⟨_, pre ++ [(⟨0, ⟨#[]⟩, i, 0, none, 0, 0, none, 0, 0⟩ : TokG)], by rw [HF.out]; rfl, ?_, ?_, k1.trans (hb3.mono s1)⟩
        · refine row_mono ?_ s1
          simpa using hown'
        · rw [HF.out, List.map_append]
          exact HI2.out
end Go.Proofs.YtflohhdaijlflaaGreatDoor

/- Cutting at diamonds: by tokens, and by places without blanks. -/
namespace Go.Proofs.YtflohhdaijlflaaGreatDoor
set_option linter.unusedVariables false
set_option linter.unusedSimpArgs false
open Go.RowKit

theorem runesBytes_app (a b : List Int) : (runesBytes (a ++ b)).data.toList = (runesBytes a).data.toList ++ (runesBytes b).data.toList := by
  induction a with
  | nil => rfl
  | cons c a ih => rw [List.cons_append, runesBytes_cons, runesBytes_cons, ih, List.append_assoc]
theorem part_ok {cs : List Int} (hok : ∀ c ∈ cs, okRune c) (i j : Nat) : ∀ c ∈ (cs.drop i).take (j - i), okRune c := fun c hc => hok c (List.mem_of_mem_drop (List.mem_of_mem_take hc))
theorem cut_scan {cs : List Int} (hok : ∀ c ∈ cs, okRune c) (i j : Nat) : scanR (cutText cs i j) (cutText cs i j).size 0 [] = ((cs.drop i).take (j - i), 0, 0) := scan_back _ (part_ok hok i j)
theorem cut_len {cs : List Int} (hok : ∀ c ∈ cs, okRune c) {i j : Nat} (hj : j ≤ cs.length) : (scanR (cutText cs i j) (cutText cs i j).size 0 []).1.length = j - i := by
  rw [cut_scan hok]; simp; omega
/-- A token's text that is one character: it is that one. -/
theorem cut_one {cs : List Int} (hok : ∀ c ∈ cs, okRune c) {i j : Nat} (hij : i < j) (hj : j ≤ cs.length) (d : Int) (hd : okRune d) (h : cutText cs i j = runesBytes [d]) : j = i + 1 ∧ cs.getD i 0 = d := by
  have h1 := cut_scan hok i j
  rw [h, scan_back [d] (by intro c hc; rw [List.mem_singleton.1 hc]; exact hd)] at h1
  have h2 : [d] = (cs.drop i).take (j - i) := congrArg Prod.fst h1
  have h3 := congrArg List.length h2
  simp at h3
  have hji : j = i + 1 := by omega
  refine ⟨hji, ?_⟩
  have h4 : (cs.drop i).take (j - i) = [cs.getD i 0] := by
    rw [hji, show i + 1 - i = 1 by omega, List.drop_eq_getElem_cons (by omega), List.take_succ_cons, List.take_zero]
    simp [List.getD, show i < cs.length by omega]
  rw [h4] at h2
  exact (List.cons.inj h2).1.symm
theorem one_cut (cs : List Int) (i : Nat) (hi : i < cs.length) : cutText cs i (i + 1) = runesBytes [cs.getD i 0] := by
  unfold cutText
  rw [show i + 1 - i = 1 by omega, List.drop_eq_getElem_cons hi, List.take_succ_cons, List.take_zero]
  simp [List.getD, hi]
theorem diaT_is : diaT = runesBytes [8900] := by decide +kernel
theorem opT_is : opT = runesBytes [123] := by decide +kernel
theorem clT_is : clT = runesBytes [125] := by decide +kernel
theorem next_dia (ne : ByteArray → Int) (cs : List Int) (i : Nat) (h : cs.getD i 0 = 8900) : nextF ne cs i = (6, i + 1, 0) := by
  unfold nextF
  rw [h, if_neg (by decide), if_neg (by decide), if_neg (by decide), if_neg (by decide), if_neg (by decide +kernel), if_pos (by decide +kernel)]
theorem next_op (ne : ByteArray → Int) (cs : List Int) (i : Nat) (h : cs.getD i 0 = 123) : nextF ne cs i = (6, i + 1, 0) := by
  unfold nextF
  rw [h, if_neg (by decide), if_neg (by decide), if_neg (by decide), if_neg (by decide), if_neg (by decide +kernel), if_pos (by decide +kernel)]
theorem next_cl (ne : ByteArray → Int) (cs : List Int) (i : Nat) (h : cs.getD i 0 = 125) : nextF ne cs i = (6, i + 1, 0) := by
  unfold nextF
  rw [h, if_neg (by decide), if_neg (by decide), if_neg (by decide), if_neg (by decide), if_neg (by decide +kernel), if_pos (by decide +kernel)]
/-- A token of one of these texts is a sign. -/
theorem sign_kind {ne : ByteArray → Int} {cs : List Int} (hok : ∀ c ∈ cs, okRune c) {i : Nat} (hi : i < cs.length) (h0 : (nextF ne cs i).2.2 = 0) {T : ByteArray} (hT : T = diaT ∨ T = opT ∨ T = clT) (h : cutText cs i (nextF ne cs i).2.1 = T) : (nextF ne cs i).1 = 6 ∧ (nextF ne cs i).2.1 = i + 1 := by
  have hj := nextF_end ne cs i hi h0
  rcases hT with rfl | rfl | rfl
  · rw [diaT_is] at h
    have := cut_one hok hj.1 hj.2 8900 (by unfold okRune; omega) h
    rw [next_dia ne cs i this.2]; exact ⟨rfl, rfl⟩
  · rw [opT_is] at h
    have := cut_one hok hj.1 hj.2 123 (by unfold okRune; omega) h
    rw [next_op ne cs i this.2]; exact ⟨rfl, rfl⟩
  · rw [clT_is] at h
    have := cut_one hok hj.1 hj.2 125 (by unfold okRune; omega) h
    rw [next_cl ne cs i this.2]; exact ⟨rfl, rfl⟩
theorem runEnd_in {p : Int → Bool} {cs : List Int} {i : Nat} (hi : i ≤ cs.length) {m : Nat} (h1 : i ≤ m) (h2 : m < runEnd p cs i) : p (cs.getD m 0) = true := by
  have hle := runEnd_le p cs i hi
  unfold runEnd at h2
  have hm : m - i < ((cs.drop i).takeWhile p).length := by omega
  have h3 : p ((cs.drop i).takeWhile p)[m - i] = true := List.all_eq_true.1 List.all_takeWhile _ (List.getElem_mem hm)
  have hml : m < cs.length := by
    have h5 := (List.takeWhile_sublist p (l := cs.drop i)).length_le
    rw [List.length_drop] at h5
    omega
  have h4 : ((cs.drop i).takeWhile p)[m - i] = cs.getD m 0 := by
    have e1 := (List.takeWhile_prefix p (l := cs.drop i)).getElem hm
    have e2 : cs.getD m 0 = cs[m] := by rw [List.getD_eq_getElem?_getD, List.getElem?_eq_getElem hml]; rfl
    rw [e1, List.getElem_drop, e2]
    simp only [show i + (m - i) = m by omega]
  rw [h4] at h3
  exact h3
theorem qscan_last (cs : List Int) : ∀ (f i : Nat) (acc : List Int) (p : List Int × Nat), qscan cs f i acc = some p → cs.getD (p.2 - 1) 0 = 39
  | 0, i, acc, p, h => by simp [qscan] at h
  | f + 1, i, acc, p, h => by
    rw [qscan] at h
    by_cases h1 : i < cs.length
    · rw [if_pos h1] at h
      by_cases h2 : cs.getD i 0 = 39
      · rw [if_pos h2] at h
        by_cases h3 : i + 1 = cs.length ∨ ¬ cs.getD (i + 1) 0 = 39
        · rw [if_pos h3] at h
          cases h
          simpa using h2
        · rw [if_neg h3] at h
          exact qscan_last cs f (i + 2) _ p h
      · rw [if_neg h2] at h
        exact qscan_last cs f (i + 1) _ p h
    · rw [if_neg h1] at h; cases h
theorem bl_not {c : Int} (h : ¬ c = 32) (h' : ¬ c = 9) : bl c = false := by unfold bl; simp [h, h']
/-- No token ends with a blank. -/
theorem next_last (ne : ByteArray → Int) (cs : List Int) (i : Nat) (hi : i < cs.length) (hb : bl (cs.getD i 0) = false) (h0 : (nextF ne cs i).2.2 = 0) : bl (cs.getD ((nextF ne cs i).2.1 - 1) 0) = false := by
  have hj := nextF_end ne cs i hi h0
  by_cases hone : (nextF ne cs i).2.1 = i + 1
  · rw [hone]; exact hb
  unfold nextF at h0 hj hone ⊢
  by_cases h1 : cs.getD i 0 = 175 ∨ dg (cs.getD i 0) = true
  · rw [if_pos h1] at hj hone ⊢
    simp only at hj hone ⊢
    have h5 := runEnd_in (p := inn) (cs := cs) (i := i + 1) (by omega) (m := runEnd inn cs (i + 1) - 1) (by omega) (by omega)
    generalize cs.getD (runEnd inn cs (i + 1) - 1) 0 = D at *
    refine bl_not (fun h => ?_) (fun h => ?_) <;> (rw [h] at h5; exact absurd h5 (by decide))
  rw [if_neg h1] at h0 hj hone ⊢
  by_cases h2 : cs.getD i 0 = 39
  · rw [if_pos h2] at h0 hj hone ⊢
    cases hq : qscan cs cs.length (i + 1) [] with
    | none => rw [hq] at h0; simp at h0
    | some p =>
      simp only
      rw [qscan_last cs _ _ _ _ hq]
      decide
  rw [if_neg h2] at h0 hj hone ⊢
  by_cases h3 : bn (cs.getD i 0) = true
  · rw [if_pos h3] at h0 hj hone ⊢
    by_cases h4 : runEnd inm cs i - i ≤ 32
    · rw [if_pos h4] at hj hone ⊢
      simp only at hj hone ⊢
      have h5 := runEnd_in (p := inm) (cs := cs) (i := i) (by omega) (m := runEnd inm cs i - 1) (by omega) (by omega)
      generalize cs.getD (runEnd inm cs i - 1) 0 = D at *
      refine bl_not (fun h => ?_) (fun h => ?_) <;> (rw [h] at h5; exact absurd h5 (by decide))
    · rw [if_neg h4] at h0; simp at h0
  rw [if_neg h3] at h0 hj hone ⊢
  by_cases h4 : cs.getD i 0 = 9109
  · rw [if_pos h4] at hj hone ⊢
    simp only at hj hone ⊢
    have h5 := runEnd_in (p := lt) (cs := cs) (i := i + 1) (by omega) (m := runEnd lt cs (i + 1) - 1) (by omega) (by omega)
    generalize cs.getD (runEnd lt cs (i + 1) - 1) 0 = D at *
    refine bl_not (fun h => ?_) (fun h => ?_) <;> (rw [h] at h5; exact absurd h5 (by decide))
  rw [if_neg h4] at h0 hj hone ⊢
  by_cases h5 : cs.getD i 0 ∈ decs prims prims.size 0
  · rw [if_pos h5] at hone; exact absurd rfl hone
  rw [if_neg h5] at h0 hj hone ⊢
  by_cases h6 : cs.getD i 0 ∈ decs sgns sgns.size 0
  · rw [if_pos h6] at hone; exact absurd rfl hone
  rw [if_neg h6] at h0; simp at h0
theorem next_kind (ne : ByteArray → Int) (cs : List Int) (i : Nat) (h0 : (nextF ne cs i).2.2 = 0) : ¬ (nextF ne cs i).1 = 0 := by
  unfold nextF at h0 ⊢
  by_cases h1 : cs.getD i 0 = 175 ∨ dg (cs.getD i 0) = true
  · rw [if_pos h1]; simp
  rw [if_neg h1] at h0 ⊢
  by_cases h2 : cs.getD i 0 = 39
  · rw [if_pos h2] at h0 ⊢
    cases hq : qscan cs cs.length (i + 1) [] with
    | none => rw [hq] at h0; simp at h0
    | some p => simp
  rw [if_neg h2] at h0 ⊢
  by_cases h3 : bn (cs.getD i 0) = true
  · rw [if_pos h3] at h0 ⊢
    by_cases h4 : runEnd inm cs i - i ≤ 32
    · rw [if_pos h4]; simp
    · rw [if_neg h4] at h0; simp at h0
  rw [if_neg h3] at h0 ⊢
  by_cases h4 : cs.getD i 0 = 9109
  · rw [if_pos h4]; simp
  rw [if_neg h4] at h0 ⊢
  by_cases h5 : cs.getD i 0 ∈ decs prims prims.size 0
  · rw [if_pos h5]; simp
  rw [if_neg h5] at h0 ⊢
  by_cases h6 : cs.getD i 0 ∈ decs sgns sgns.size 0
  · rw [if_pos h6]; simp
  rw [if_neg h6] at h0; simp at h0

def isB (b : UInt8) : Bool := b == 32 || b == 9
theorem trimL_pre {a l : List UInt8} (h : ∀ b ∈ a, isB b = true) : trimL (a ++ l) = trimL l := by
  induction a with
  | nil => rfl
  | cons x a ih =>
    have hx : (x == 32 || x == 9) = true := h x (by simp)
    unfold trimL at ih ⊢
    rw [List.cons_append, List.dropWhile_cons, if_pos hx]
    exact ih (fun b hb => h b (by simp [hb]))
theorem trimL_stop {x : UInt8} {l : List UInt8} (h : isB x = false) : trimL (x :: l) = x :: l := by
  have hx : (x == 32 || x == 9) = false := h
  unfold trimL
  rw [List.dropWhile_cons, if_neg (by rw [hx]; simp)]
theorem trimL_all {a : List UInt8} (h : ∀ b ∈ a, isB b = true) : trimL a = [] := by
  have := trimL_pre (a := a) (l := []) h
  rw [List.append_nil] at this
  rw [this]; rfl
theorem trimB_mid {a m b : List UInt8} (ha : ∀ x ∈ a, isB x = true) (hb : ∀ x ∈ b, isB x = true) (hm : m = [] ∨ ∃ x l y k, m = x :: l ∧ m = k ++ [y] ∧ isB x = false ∧ isB y = false) : trimB (a ++ (m ++ b)) = m := by
  unfold trimB
  rw [trimL_pre ha]
  rcases hm with rfl | ⟨x, l, y, k, h1, h2, h3, h4⟩
  · rw [List.nil_append, trimL_all hb]; rfl
  · have e : trimL (m ++ b) = m ++ b := by rw [h1, List.cons_append]; exact trimL_stop h3
    rw [e, List.reverse_append, trimL_pre (fun z hz => hb z (by simpa using hz)), h2, List.reverse_append, List.reverse_singleton, List.singleton_append, trimL_stop h4]
    simp
theorem blank_bytes {l : List Int} (h : ∀ c ∈ l, bl c = true) : ∀ b ∈ (runesBytes l).data.toList, isB b = true := by
  induction l with
  | nil => intro b hb; cases hb
  | cons c l ih =>
    intro b hb
    rw [runesBytes_cons] at hb
    rcases List.mem_append.1 hb with hb | hb
    · rcases (bl_cases c).1 (h c (by simp)) with rfl | rfl
      · rw [show (Utf8.encode 32).data.toList = [32] by decide +kernel] at hb
        rw [List.mem_singleton.1 hb]; rfl
      · rw [show (Utf8.encode 9).data.toList = [9] by decide +kernel] at hb
        rw [List.mem_singleton.1 hb]; rfl
    · exact ih (fun d hd => h d (by simp [hd])) b hb
theorem isB_of {n : Nat} (h : n < 256) (h1 : ¬ n = 32) (h2 : ¬ n = 9) : isB (UInt8.ofNat n) = false := by
  have e1 : ¬ UInt8.ofNat n = 32 := fun e => h1 (by have := congrArg UInt8.toNat e; rw [nat_byte n h] at this; simpa using this)
  have e2 : ¬ UInt8.ofNat n = 9 := fun e => h2 (by have := congrArg UInt8.toNat e; rw [nat_byte n h] at this; simpa using this)
  unfold isB
  simp [e1, e2]
theorem ink_bytes {c : Int} (hc : okRune c) (hb : bl c = false) : ∃ x l y k, (Utf8.encode c).data.toList = x :: l ∧ (Utf8.encode c).data.toList = k ++ [y] ∧ isB x = false ∧ isB y = false := by
  have hr := okRune_le hc
  have hn : ¬ c.toNat = 32 ∧ ¬ c.toNat = 9 := by
    have h1 : ¬ (c = 32 ∨ c = 9) := fun h => by rw [(bl_cases c).2 h] at hb; cases hb
    unfold okRune at hc
    omega
  rw [enc_list c hc]
  generalize c.toNat = n at *
  by_cases h1 : n < 128
  · rw [if_pos h1]; exact ⟨_, [], _, [], rfl, rfl, isB_of (by omega) hn.1 hn.2, isB_of (by omega) hn.1 hn.2⟩
  rw [if_neg h1]
  by_cases h2 : n < 2048
  · rw [if_pos h2]; exact ⟨_, _, _, [_], rfl, rfl, isB_of (by omega) (by omega) (by omega), isB_of (by omega) (by omega) (by omega)⟩
  rw [if_neg h2]
  by_cases h3 : n < 65536
  · rw [if_pos h3]; exact ⟨_, _, _, [_, _], rfl, rfl, isB_of (by omega) (by omega) (by omega), isB_of (by omega) (by omega) (by omega)⟩
  rw [if_neg h3]; exact ⟨_, _, _, [_, _, _], rfl, rfl, isB_of (by omega) (by omega) (by omega), isB_of (by omega) (by omega) (by omega)⟩
theorem mid_bytes {l : List Int} (hok : ∀ c ∈ l, okRune c) (h0 : 0 < l.length) (hf : bl (l.getD 0 0) = false) (hz : bl (l.getD (l.length - 1) 0) = false) :
    ∃ x r y k, (runesBytes l).data.toList = x :: r ∧ (runesBytes l).data.toList = k ++ [y] ∧ isB x = false ∧ isB y = false := by
  obtain ⟨c, l1, rfl⟩ : ∃ c l1, l = c :: l1 := by
    cases l with
    | nil => simp at h0
    | cons c l1 => exact ⟨c, l1, rfl⟩
  obtain ⟨x, r, _, _, h1, _, h3, _⟩ := ink_bytes (hok c (by simp)) (by simpa using hf)
  have hne : (c :: l1) ≠ [] := by simp
  have hsp := List.dropLast_concat_getLast hne
  obtain ⟨d, hd⟩ : ∃ d, (c :: l1).getLast hne = d := ⟨_, rfl⟩
  have hdl : (c :: l1).getD ((c :: l1).length - 1) 0 = d := by
    rw [← hd, List.getLast_eq_getElem]
    simp [List.getD]
  rw [hd] at hsp
  rw [hdl] at hz
  have hdm : d ∈ c :: l1 := by rw [← hd]; exact List.getLast_mem hne
  obtain ⟨_, _, y, k, _, h6, _, h8⟩ := ink_bytes (hok d hdm) hz
  refine ⟨x, r ++ (runesBytes l1).data.toList, y, (runesBytes (c :: l1).dropLast).data.toList ++ k, ?_, ?_, h3, h8⟩
  · rw [runesBytes_cons, h1, List.cons_append]
  · rw [← hsp, runesBytes_app]
    have e1 : (runesBytes [d]).data.toList = (Utf8.encode d).data.toList := by rw [runesBytes_cons, runesBytes_nil, List.append_nil]
    rw [e1, h6, List.append_assoc]
    simp

/-- The tokens of a part, from p to i: blanks, then they, then blanks. -/
def Part (cs : List Int) (p i : Nat) (cur : List (Int × ByteArray × Nat × Int)) : Prop :=
  ∃ a b, p ≤ a ∧ a ≤ b ∧ b ≤ i ∧ (∀ m, p ≤ m → m < a → bl (cs.getD m 0) = true) ∧ (∀ m, b ≤ m → m < i → bl (cs.getD m 0) = true) ∧ stretchF cs cur = cutText cs a b ∧
    ((cur = [] ∧ a = b) ∨ (∃ x r, cur = x :: r ∧ x.2.2.1 = a ∧ a < b ∧ bl (cs.getD a 0) = false ∧ bl (cs.getD (b - 1) 0) = false))
theorem cut_get {cs : List Int} {i j k : Nat} (hj : j ≤ cs.length) (hk : i + k < j) : ((cs.drop i).take (j - i)).getD k 0 = cs.getD (i + k) 0 := by
  simp [List.getD, List.getElem?_take, show k < j - i by omega]
theorem part_trim {cs : List Int} (hok : ∀ c ∈ cs, okRune c) {p i : Nat} {cur : List (Int × ByteArray × Nat × Int)} (hi : i ≤ cs.length) (h : Part cs p i cur) : (⟨(trimB (cutText cs p i).data.toList).toArray⟩ : ByteArray) = stretchF cs cur := by
  obtain ⟨a, b, h1, h2, h3, h4, h5, h6, h7⟩ := h
  have hsplit : (cs.drop p).take (i - p) = (cs.drop p).take (a - p) ++ ((cs.drop a).take (b - a) ++ (cs.drop b).take (i - b)) := by
    have e1 : (cs.drop p).take (i - p) = (cs.drop p).take (a - p) ++ (cs.drop a).take (i - a) := by
      rw [show i - p = (a - p) + (i - a) by omega, List.take_add, List.drop_drop, show p + (a - p) = a by omega]
    have e2 : (cs.drop a).take (i - a) = (cs.drop a).take (b - a) ++ (cs.drop b).take (i - b) := by
      rw [show i - a = (b - a) + (i - b) by omega, List.take_add, List.drop_drop, show a + (b - a) = b by omega]
    rw [e1, e2]
  have hbl : ∀ {u v : Nat}, v ≤ cs.length → (∀ m, u ≤ m → m < v → bl (cs.getD m 0) = true) → ∀ c ∈ (cs.drop u).take (v - u), bl c = true := fun {u v} hv hm c hc => by
    obtain ⟨k, hk, rfl⟩ := List.getElem_of_mem hc
    have hkl : k < v - u := by simp at hk; omega
    have := cut_get (cs := cs) (i := u) (j := v) (k := k) hv (by omega)
    have e : ((cs.drop u).take (v - u)).getD k 0 = ((cs.drop u).take (v - u))[k] := by rw [List.getD_eq_getElem?_getD, List.getElem?_eq_getElem hk]; rfl
    rw [← e, this]
    exact hm _ (by omega) (by omega)
  rw [h6]
  have hB : (cutText cs p i).data.toList = (runesBytes ((cs.drop p).take (a - p))).data.toList ++ ((cutText cs a b).data.toList ++ (runesBytes ((cs.drop b).take (i - b))).data.toList) := by
    unfold cutText
    rw [hsplit, runesBytes_app, runesBytes_app]
  refine ByteArray.ext (Array.toList_inj.1 ?_)
  show (trimB (cutText cs p i).data.toList).toArray.toList = (cutText cs a b).data.toList
  rw [hB]
  refine trimB_mid (blank_bytes (hbl (by omega) h4)) (blank_bytes (hbl hi h5)) ?_
  rcases h7 with ⟨_, rfl⟩ | ⟨x, r, _, _, hab, ha, hb⟩
  · left
    unfold cutText
    rw [Nat.sub_self, List.take_zero]; rfl
  · right
    have hlen : ((cs.drop a).take (b - a)).length = b - a := by simp; omega
    refine mid_bytes (part_ok hok a b) (by omega) ?_ ?_
    · rw [cut_get (by omega) (by omega)]; exact ha
    · rw [hlen, cut_get (by omega) (by omega), show a + (b - a - 1) = b - 1 by omega]; exact hb
theorem part_blank {cs : List Int} {p i : Nat} {cur : List (Int × ByteArray × Nat × Int)} (h : Part cs p i cur) (hb : bl (cs.getD i 0) = true) : Part cs p (i + 1) cur := by
  obtain ⟨a, b, h1, h2, h3, h4, h5, h6⟩ := h
  refine ⟨a, b, h1, h2, by omega, h4, fun m hm hm' => ?_, h6⟩
  by_cases e : m = i
  · rw [e]; exact hb
  · exact h5 m hm (by omega)
theorem stretch_app (cs : List Int) (x : Int × ByteArray × Nat × Int) (r : List (Int × ByteArray × Nat × Int)) (t : Int × ByteArray × Nat × Int) : stretchF cs (x :: r ++ [t]) = cutText cs x.2.2.1 (tokEnd t) := by
  have e : x :: r ++ [t] = x :: (r ++ [t]) := rfl
  have e2 : (x :: (r ++ [t])).getLast (by simp) = t := by rw [List.getLast_cons (by simp)]; simp
  rw [e]
  unfold stretchF
  simp only
  rw [e2]
theorem part_tok {cs : List Int} (hok : ∀ c ∈ cs, okRune c) {p i j : Nat} {cur : List (Int × ByteArray × Nat × Int)} (h : Part cs p i cur) (hij : i < j) (hj : j ≤ cs.length) (hb : bl (cs.getD i 0) = false) (hb2 : bl (cs.getD (j - 1) 0) = false) (kd : Int) : Part cs p j (cur ++ [(kd, cutText cs i j, i, 0)]) := by
  obtain ⟨a, b, h1, h2, h3, h4, h5, h6, h7⟩ := h
  have hte : tokEnd (kd, cutText cs i j, i, 0) = j := by
    unfold tokEnd
    simp only
    rw [cut_len hok hj]; omega
  rcases h7 with ⟨rfl, rfl⟩ | ⟨x, r, rfl, hx, hab, ha, hbb⟩
  · refine ⟨i, j, by omega, by omega, Nat.le_refl _, fun m hm hm' => ?_, fun m hm hm' => by omega, ?_, Or.inr ⟨_, _, rfl, rfl, hij, hb, hb2⟩⟩
    · by_cases e : m < a
      · exact h4 m hm e
      · exact h5 m (by omega) hm'
    · rw [List.nil_append]
      unfold stretchF
      simp only [List.getLast_singleton]
      rw [hte]
  · refine ⟨a, j, h1, by omega, Nat.le_refl _, h4, fun m hm hm' => by omega, ?_, Or.inr ⟨x, r ++ [(kd, cutText cs i j, i, 0)], rfl, hx, by omega, ha, hb2⟩⟩
    rw [stretch_app, hte, hx]
theorem part_new (cs : List Int) (j : Nat) : Part cs j j [] := by
  refine ⟨j, j, Nat.le_refl _, Nat.le_refl _, Nat.le_refl _, fun m h1 h2 => by omega, fun m h1 h2 => by omega, ?_, Or.inl ⟨rfl, rfl⟩⟩
  unfold cutText
  rw [Nat.sub_self, List.take_zero]; rfl
theorem split_same (ne : ByteArray → Int) (cs : List Int) (hok : ∀ c ∈ cs, okRune c) : ∀ (n i f g p op : Nat) (cur : List (Int × ByteArray × Nat × Int)), cs.length - i ≤ n → i ≤ cs.length → cs.length < passTo cs i + f → cs.length < i + g → Part cs p i cur →
    (∀ x ∈ itemsF ne cs f (passTo cs i), x.2.2.2 = 0) → spl cs (itemsF ne cs f (passTo cs i)) cur op = rspl cs (refItemsF ne cs g i) p op := by
  have hend : ∀ (k q p op : Nat) (cur : List (Int × ByteArray × Nat × Int)), q ≤ cs.length → Part cs p q cur → spl cs [(0, ⟨#[]⟩, k, 0)] cur op = rspl cs [(0, ⟨#[]⟩, q, 0)] p op := fun k q p op cur hq hP => by
    simp only [spl, rspl, true_or, if_true, part_trim hok hq hP]
    simp
  intro n
  induction n with
  | zero =>
    intro i f g p op cur hn hi hf hg hP hE
    obtain rfl : i = cs.length := by omega
    rw [passTo_end] at hf hE ⊢
    obtain ⟨f, rfl⟩ : ∃ k, f = k + 1 := ⟨f - 1, by omega⟩
    obtain ⟨g, rfl⟩ : ∃ k, g = k + 1 := ⟨g - 1, by omega⟩
    rw [itemsF, if_neg (by omega), refItemsF, if_neg (by omega)]
    exact hend _ _ _ _ _ hi hP
  | succ n ih =>
    intro i f g p op cur hn hi hf hg hP hE
    obtain ⟨g, rfl⟩ : ∃ k, g = k + 1 := ⟨g - 1, by omega⟩
    by_cases hil : i < cs.length
    · by_cases h9 : cs.getD i 0 = 9053
      · have hb : bl (cs.getD i 0) = false := by rw [h9]; decide
        have e : passTo cs i = cs.length := by
          unfold passTo
          rw [runEnd_stop hil hb, if_pos ⟨hil, h9⟩]
        rw [e] at hf hE ⊢
        obtain ⟨f, rfl⟩ : ∃ k, f = k + 1 := ⟨f - 1, by omega⟩
        rw [itemsF, if_neg (by omega), refItemsF, if_neg (fun h => h.2 h9)]
        exact hend _ _ _ _ _ hi hP
      · rw [refItemsF, if_pos ⟨hil, h9⟩]
        by_cases hb : bl (cs.getD i 0) = true
        · have e : passTo cs i = passTo cs (i + 1) := by
            unfold passTo
            rw [runEnd_step hil hb]
          rw [if_pos hb, e]
          rw [e] at hf hE
          exact ih (i + 1) f g p op cur (by omega) (by omega) hf (by omega) (part_blank hP hb) hE
        · have hbf : bl (cs.getD i 0) = false := by simpa using hb
          have e : passTo cs i = i := by
            unfold passTo
            rw [runEnd_stop hil hbf, if_neg (fun h => h9 h.2)]
          rw [if_neg hb, e]
          rw [e] at hf hE
          obtain ⟨f, rfl⟩ : ∃ k, f = k + 1 := ⟨f - 1, by omega⟩
          rw [itemsF, if_pos hil] at hE ⊢
          by_cases h0 : (nextF ne cs i).2.2 = 0
          · have hj := nextF_end ne cs i hil h0
            have hp := passTo_le hj.2
            have hk := next_kind ne cs i h0
            have hl := next_last ne cs i hil hbf h0
            have hsg : ∀ {T : ByteArray}, (T = diaT ∨ T = opT ∨ T = clT) → cutText cs i (nextF ne cs i).2.1 = T → (nextF ne cs i).1 = 6 ∧ (nextF ne cs i).2.1 = i + 1 := fun hT h => sign_kind hok hil h0 hT h
            rw [if_pos h0] at hE ⊢
            rw [if_pos h0]
            have hPT := fun kd => part_tok hok hP hj.1 hj.2 hbf hl kd
            have hE2 : ∀ x ∈ itemsF ne cs f (passTo cs (nextF ne cs i).2.1), x.2.2.2 = 0 := fun x hx => hE x (List.mem_cons_of_mem _ hx)
            generalize (nextF ne cs i).1 = KD at *
            generalize (nextF ne cs i).2.1 = j at *
            have hne1 : ¬ diaT = opT := by decide
            have hne2 : ¬ diaT = clT := by decide
            have hne3 : ¬ opT = diaT := by decide
            have hne4 : ¬ opT = clT := by decide
            have hne5 : ¬ clT = diaT := by decide
            have hne6 : ¬ clT = opT := by decide
            rw [spl, rspl]
            simp only
            have hih : ∀ p' op' cur', Part cs p' j cur' → spl cs (itemsF ne cs f (passTo cs j)) cur' op' = rspl cs (refItemsF ne cs g j) p' op' := fun p' op' cur' hP' => ih j f g p' op' cur' (by omega) hj.2 (by omega) (by omega) hP' hE2
            by_cases hd : cutText cs i j = diaT
            · obtain ⟨rfl, rfl⟩ := hsg (Or.inl rfl) hd
              rw [hd]
              by_cases ho : op = 0
              · rw [if_pos (Or.inr ⟨rfl, ho⟩), if_neg (fun h => hne1 h.2), if_neg (fun h => hne2 h.1.2), if_pos ⟨⟨rfl, rfl⟩, ho⟩, part_trim hok hi hP]
                rw [hih _ _ _ (part_new cs (i + 1))]
              · rw [if_neg (by rintro (h | h); exact absurd h (by decide); exact ho h.2), if_neg hne1, if_neg (fun h => hne2 h.1), if_neg (fun h => hne1 h.2), if_neg (fun h => hne2 h.1.2), if_neg (fun h => ho h.2), if_neg (by decide)]
                have := hPT 6
                rw [hd] at this
                exact hih _ _ _ this
            · rw [if_neg (by rintro (h | h); exact hk h; exact hd h.1)]
              by_cases hop : cutText cs i j = opT
              · obtain ⟨rfl, rfl⟩ := hsg (Or.inr (Or.inl rfl)) hop
                rw [if_pos hop, if_pos ⟨rfl, hop⟩]
                exact hih _ _ _ (hPT 6)
              · by_cases hcl : cutText cs i j = clT
                · obtain ⟨rfl, rfl⟩ := hsg (Or.inr (Or.inr rfl)) hcl
                  by_cases ho : 0 < op
                  · rw [if_neg hop, if_pos ⟨hcl, ho⟩, if_neg (fun h => hop h.2), if_pos ⟨⟨rfl, hcl⟩, ho⟩]
                    exact hih _ _ _ (hPT 6)
                  · rw [if_neg hop, if_neg (fun h => ho h.2), if_neg (fun h => hop h.2), if_neg (fun h => ho h.2), if_neg (fun h => hd h.1.2), if_neg (by decide)]
                    exact hih _ _ _ (hPT 6)
                · rw [if_neg hop, if_neg (fun h => hcl h.1), if_neg (fun h => hop h.2), if_neg (fun h => hcl h.1.2), if_neg (fun h => hd h.1.2), if_neg hk]
                  exact hih _ _ _ (hPT KD)
          · rw [if_neg h0] at hE
            exact absurd (hE _ (List.mem_singleton.2 rfl)) h0
    · obtain rfl : i = cs.length := by omega
      rw [passTo_end] at hf hE ⊢
      obtain ⟨f, rfl⟩ : ∃ k, f = k + 1 := ⟨f - 1, by omega⟩
      rw [itemsF, if_neg (by omega), refItemsF, if_neg (by omega)]
      exact hend _ _ _ _ _ hi hP
end Go.Proofs.YtflohhdaijlflaaGreatDoor

/- Both answers of Split are the same. -/
namespace Go.Proofs.YtflohhdaijlflaaGreatDoor
set_option linter.unusedVariables false
set_option linter.unusedSimpArgs false
open Go.RowKit Go.Shelf

def rsplitF (ne : ByteArray → Int) (s : ByteArray) : List ByteArray × Int × Nat :=
  if (refAllF ne s).2.1 = 0 then (rspl (scanR s s.size 0 []).1 (refAllF ne s).1 0 0, 0, 0) else ([], (refAllF ne s).2)
theorem refAllF_ok {ne : ByteArray → Int} {s : ByteArray} (h : (refAllF ne s).2.1 = 0) : s.size ≤ 1024 ∧ (scanR s s.size 0 []).2.1 = 0 ∧ (refAllF ne s).1 = refItems ne (scanR s s.size 0 []).1 ∧ (lastEr (refItems ne (scanR s s.size 0 []).1)).1 = 0 := by
  unfold refAllF at h ⊢
  by_cases h1 : 1024 < s.size
  · rw [if_pos h1] at h; exact absurd h (by decide)
  rw [if_neg h1] at h ⊢
  by_cases h2 : ¬ (scanR s s.size 0 []).2.1 = 0
  · rw [if_pos h2] at h; exact absurd h h2
  rw [if_neg h2] at h ⊢
  by_cases h3 : (lastEr (refItems ne (scanR s s.size 0 []).1)).1 = 0
  · rw [if_pos h3]; exact ⟨by omega, by omega, rfl, h3⟩
  · rw [if_neg h3] at h; exact absurd h h3
theorem split_eq (ne : ByteArray → Int) (s : ByteArray) : splitF ne s = rsplitF ne s := by
  have hs := (allF_ref ne s).2
  unfold splitF rsplitF
  by_cases h : (allF ne s).2.1 = 0
  · have h' : (refAllF ne s).2.1 = 0 := by rw [← hs]; exact h
    rw [if_pos h, if_pos h']
    obtain ⟨_, _, a3, a4⟩ := allF_ok h
    obtain ⟨_, _, b3, b4⟩ := refAllF_ok h'
    rw [a3, b3]
    have hok : ∀ c ∈ (scanR s s.size 0 []).1, okRune c := scanR_ok s s.size 0 [] (fun c h => by cases h)
    generalize (scanR s s.size 0 []).1 = cs at *
    have hp : passTo cs 0 ≤ cs.length := (passTo_le (Nat.zero_le _)).2
    have := split_same ne cs hok (cs.length) 0 (cs.length + 1) (cs.length + 1) 0 0 [] (by omega) (by omega) (by omega) (by omega)
      ⟨0, 0, Nat.le_refl _, Nat.le_refl _, Nat.le_refl _, (fun m h1 h2 => by omega), (fun m h1 h2 => by omega), (by rw [stretchF_nil]; unfold cutText; simp; rfl), Or.inl ⟨rfl, rfl⟩⟩ (itemsF_er ne cs _ _ a4)
    have this' : spl cs (items ne cs) [] 0 = rspl cs (refItems ne cs) 0 0 := this
    rw [this']
  · have h' : ¬ (refAllF ne s).2.1 = 0 := by rw [← hs]; exact h
    rw [if_neg h, if_neg h', hs]
end Go.Proofs.YtflohhdaijlflaaGreatDoor

/- where the tokens of the document stand. -/
namespace Go.Proofs.YtflohhdaijlflaaGreatDoor
set_option linter.unusedVariables false
set_option linter.unusedSimpArgs false
open Go.RowKit Go.Shelf

theorem flat_getR {xs : List TokG} {i : Nat} (hi : i < xs.length) (k : Nat) (hk : k < 5) : (xs.flatMap TokG.cellsR)[5 * i + k]? = (xs[i]).cellsR[k]? := by
  induction xs generalizing i with
  | nil => simp at hi
  | cons x xs ih =>
    rw [List.flatMap_cons]
    cases i with
    | zero => rw [Nat.mul_zero, Nat.zero_add, List.getElem?_append_left (by simpa [TokG.cellsR] using hk)]; rfl
    | succ i =>
      rw [List.getElem?_append_right (by simp [TokG.cellsR]; omega)]
      have e : 5 * (i + 1) + k - x.cellsR.length = 5 * i + k := by simp [TokG.cellsR]; omega
      rw [e, ih (by simpa using hi)]
      rfl
theorem refItems_good (ne : ByteArray → Int) (cs : List Int) (hok : ∀ c ∈ cs, okRune c) (hl : cs.length ≤ 1024) : ∀ (f i : Nat), i ≤ cs.length → (∀ x ∈ refItemsF ne cs f i, x.2.2.2 = 0) →
    (∀ x ∈ refItemsF ne cs f i, i ≤ x.2.2.1 ∧ x.2.2.1 ≤ cs.length ∧ (¬ x.1 = 0 → x.2.2.1 < cs.length)) ∧ (refItemsF ne cs f i).Pairwise (fun x y => x.2.2.1 + 1 ≤ y.2.2.1)
  | 0, i, _, _ => by rw [refItemsF]; exact ⟨(fun x h => by cases h), List.Pairwise.nil⟩
  | f + 1, i, hi, hE => by
    rw [refItemsF] at hE ⊢
    by_cases h1 : i < cs.length ∧ ¬ cs.getD i 0 = 9053
    · rw [if_pos h1] at hE ⊢
      by_cases hb : bl (cs.getD i 0) = true
      · rw [if_pos hb] at hE ⊢
        obtain ⟨g1, g2⟩ := refItems_good ne cs hok hl f (i + 1) (by omega) hE
        exact ⟨fun x hx => ⟨by have := (g1 x hx).1; omega, (g1 x hx).2⟩, g2⟩
      rw [if_neg hb] at hE ⊢
      by_cases h2 : (nextF ne cs i).2.2 = 0
      · rw [if_pos h2] at hE ⊢
        have hj := nextF_end ne cs i h1.1 h2
        obtain ⟨g1, g2⟩ := refItems_good ne cs hok hl f (nextF ne cs i).2.1 hj.2 (fun x hx => hE x (List.mem_cons_of_mem _ hx))
        refine ⟨fun x hx => ?_, List.Pairwise.cons (fun y hy => ?_) g2⟩
        · rcases List.mem_cons.1 hx with rfl | hx
          · exact ⟨Nat.le_refl _, Nat.le_of_lt h1.1, fun _ => h1.1⟩
          · exact ⟨by have := (g1 x hx).1; omega, (g1 x hx).2⟩
        · have := (g1 y hy).1
          simp only
          omega
      · rw [if_neg h2] at hE
        exact absurd (hE _ (List.mem_singleton.2 rfl)) h2
    · rw [if_neg h1]
      refine ⟨fun x hx => ?_, List.pairwise_singleton _ _⟩
      rw [List.mem_singleton.1 hx]
      exact ⟨Nat.le_refl _, hi, fun h => absurd rfl h⟩
theorem refItemsF_er (ne : ByteArray → Int) (cs : List Int) : ∀ f i, (lastEr (refItemsF ne cs f i)).1 = 0 → ∀ x ∈ refItemsF ne cs f i, x.2.2.2 = 0
  | 0, i, _, x, hx => by rw [refItemsF] at hx; cases hx
  | f + 1, i, h, x, hx => by
    rw [refItemsF] at h hx
    by_cases h1 : i < cs.length ∧ ¬ cs.getD i 0 = 9053
    · rw [if_pos h1] at h hx
      by_cases hb : bl (cs.getD i 0) = true
      · rw [if_pos hb] at h hx
        exact refItemsF_er ne cs f _ h x hx
      rw [if_neg hb] at h hx
      by_cases h2 : (nextF ne cs i).2.2 = 0
      · rw [if_pos h2] at h hx
        have h3 : (lastEr (refItemsF ne cs f (nextF ne cs i).2.1)).1 = 0 := by
          unfold lastEr at h ⊢
          cases hl : refItemsF ne cs f (nextF ne cs i).2.1 with
          | nil => simp
          | cons y l =>
            rw [hl] at h
            rw [List.getLast?_cons_cons] at h
            exact h
        rcases List.mem_cons.1 hx with rfl | hx
        · rfl
        · exact refItemsF_er ne cs f _ h3 x hx
      · rw [if_neg h2] at h hx
        rw [List.mem_singleton.1 hx]
        exact h
    · rw [if_neg h1] at hx
      rw [List.mem_singleton.1 hx]
end Go.Proofs.YtflohhdaijlflaaGreatDoor

/- ref04.Split: cut by places, and trimmed. -/
namespace Go.Proofs.YtflohhdaijlflaaGreatDoor
set_option linter.unusedVariables false
set_option linter.unusedSimpArgs false
open Go.RowKit Go.Shelf

def trimT (t : ByteArray) : ByteArray := ⟨(trimB t.data.toList).toArray⟩
/-- One round: what is left to cut. -/
theorem rspl_step {cs : List Int} {toks : List TokG} {i fr op : Nat} (hi : i < toks.length) : rspl cs ((toks.drop i).map TokG.core) fr op =
    if (toks[i]).kd = 6 ∧ (toks[i]).tx = opT then rspl cs ((toks.drop (i + 1)).map TokG.core) fr (op + 1)
    else if ((toks[i]).kd = 6 ∧ (toks[i]).tx = clT) ∧ 0 < op then rspl cs ((toks.drop (i + 1)).map TokG.core) fr (op - 1)
    else if ((toks[i]).kd = 6 ∧ (toks[i]).tx = diaT) ∧ op = 0 then trimT (cutText cs fr (toks[i]).pl) :: rspl cs ((toks.drop (i + 1)).map TokG.core) ((toks[i]).pl + 1) op
    else if (toks[i]).kd = 0 then trimT (cutText cs fr (toks[i]).pl) :: rspl cs ((toks.drop (i + 1)).map TokG.core) fr op
    else rspl cs ((toks.drop (i + 1)).map TokG.core) fr op := by
  rw [rest_step hi, List.map_cons, rspl]
  rfl
set_option maxRecDepth 100000 in
theorem conv_nil (W : World) (a : Option Addr) (c : Nat) : (convert 31 9 (.slice a 0 c)).run Tryz.prog W = .ok (.string ⟨#[]⟩) W := by
  cases a with
  | none => kernel_rfl
  | some p => exact run_convert_runes (P := Tryz.prog) W 31 9 21 p 0 c [] (by simp) Tryz.underlying31 Tryz.underlying21 Tryz.underlying9 (fun m hm => by simp at hm)
theorem cut_nil (cs : List Int) (i : Nat) : cutText cs i i = ⟨#[]⟩ := by
  unfold cutText
  rw [Nat.sub_self, List.take_zero]; rfl
set_option maxRecDepth 100000 in
set_option maxHeartbeats 6400000 in
theorem refSplit_any {w : World} {ne : ByteArray → Int} (hne : TellsErr ne) (s : ByteArray) (hs : s.size ≤ 9223372036854775807) (hT : Lib.Utf8Tabs 0 1 w) :
    Calls Tryz.prog 5 #[.string s] w fun e w' => SplitIs w (rsplitF ne s) e w' := by
  obtain ⟨i0, hi, hz0, hz1, hz2⟩ := info_parts info_str
  have HT : Hid (Lib.Utf8Tabs 0 1 w) := hT
  go_enter Tryz.func5, Tryz.ntmps5
  go_wp2_with fail
  refine (refAll_any hne s hs hT).mono ?_
  rintro e w1 ⟨v1, toks, rfl, hrow, ht, k1⟩
  obtain ⟨av, cv, rfl⟩ := row_form2 hrow
  have s1 := k1.size
  by_cases her : (refAllF ne s).2.1 = 0
  case neg =>
    have HF : Hid (rsplitF ne s = ([], (refAllF ne s).2)) := by unfold Hid rsplitF; rw [if_neg her]
    have e1 : ((refAllF ne s).2.1 == 0) = false := by rw [beq_eq_false_iff_ne]; exact her
    clear hrow ht hne her hT
    generalize (refAllF ne s).2 = ER at *
    obtain ⟨er, at'⟩ := ER
    simp only at e1 HF ⊢
    go_wp2
    refine bodyPost_ret (v := .tuple #[.slice none 0 0, .int .i64 er, .int .i64 ((at' : Nat) : Int)]) (by simp [results, Tryz.results5, go_sem]) rfl ?_
    exact ⟨.slice none 0 0, by rw [HF.out], by rw [HF.out]; exact World.ownsRow_nil _ _ _ _, k1⟩
  obtain ⟨a1, a2, a3, a4⟩ := refAllF_ok her
  have HF : Hid (rsplitF ne s = (rspl (scanR s s.size 0 []).1 (refAllF ne s).1 0 0, 0, 0)) := by unfold Hid rsplitF; rw [if_pos her]
  have hcl := scanR_len s s.size 0 [] (by simp) (by omega)
  have HG : Hid ((∀ x ∈ toks, x.pl ≤ (scanR s s.size 0 []).1.length ∧ (¬ x.kd = 0 → x.pl < (scanR s s.size 0 []).1.length)) ∧ toks.Pairwise (fun x y => x.pl + 1 ≤ y.pl)) := by
    obtain ⟨g1, g2⟩ := refItems_good ne (scanR s s.size 0 []).1 (scanR_ok s s.size 0 [] (fun c h => by cases h)) (by omega) _ 0 (Nat.zero_le _) (refItemsF_er ne _ _ _ a4)
    have ht2 : refItemsF ne (scanR s s.size 0 []).1 ((scanR s s.size 0 []).1.length + 1) 0 = toks.map TokG.core := (ht.trans a3).symm
    rw [ht2] at g1 g2
    exact ⟨fun x hx => (g1 _ (List.mem_map.2 ⟨x, hx, rfl⟩)).2, List.pairwise_map.1 g2⟩
  have hlen : toks.length ≤ 1025 := by
    have h1 := refItemsF_len ne (scanR s s.size 0 []).1 ((scanR s s.size 0 []).1.length + 1) 0
    have h2 : (refItemsF ne (scanR s s.size 0 []).1 ((scanR s s.size 0 []).1.length + 1) 0).length = toks.length := by
      have := congrArg List.length (ht.trans a3)
      rw [List.length_map] at this
      exact this.symm
    omega
  rw [← ht] at HF
  rw [her]
  have HROW : Hid (w1.ownsRow w.heap.size 46 5 (.slice av toks.length cv) toks.length (toks.flatMap TokG.cellsR)) := hrow
  clear ht hrow hne a3 a4 her a2 hT
  generalize (refAllF ne s).2.2 = AT at *
  go_wp2_with fail
  refine (refRunes_any s _ (by omega) (Utf8Tabs.to HT.out k1 (Nat.le_refl _))).mono ?_
  rintro e w2 ⟨cs, a, c, er, at', rfl, hO, HD, k2⟩
  rw [HD.out] at HF hcl HG
  simp only at HF hcl HG
  have HRD : Hid (RdR w2.heap.size w2 (.slice a cs.length c) cs) := hO.rdR
  have HA : Hid ((a = none ∧ c = 0) ∨ ∃ b, a = some ⟨b, 0, none⟩) := by
    obtain ⟨_, h | ⟨g, cap, cur, hv, _⟩⟩ := hO
    · obtain ⟨h1, _, h3⟩ := Value.slice.inj h.1
      exact Or.inl ⟨h1, h3⟩
    · obtain ⟨h1, _, _⟩ := Value.slice.inj hv
      exact Or.inr ⟨g, h1⟩
  have s2 := k2.size
  have hcl2 : cs.length ≤ 1024 := by omega
  have HC : Hid (∀ g, av = some ⟨g, 0, none⟩ → g < w1.heap.size → ∀ W, Below w2.heap.size w2 W → ∀ j (hj : j < toks.length) k, k < 5 → W.cell? ⟨g, j * 5 + k, none⟩ = (toks[j]).cellsR[k]?) := by
    rintro g rfl hg W hW j hj k hk
    have := HROW.out.cellAt (5 * j + k) (by omega)
    rw [show j * 5 + k = 5 * j + k by omega, hW.cell (p := ⟨g, 5 * j + k, none⟩) (by simp; omega), k2.cell (p := ⟨g, 5 * j + k, none⟩) hg, this, flat_getR hj k hk]
  clear hO HD hcl hs a1
  go_wp2
  go_loopw [11, 12, 13, 14] (fun ov fv pv iv wr => ∃ (i fr op : Nat) (outs : List ByteArray) (ao : Option Addr) (co : Nat), ov = .slice ao outs.length co ∧ fv = .int .i64 fr ∧ pv = .int .i64 op ∧ iv = .int .i64 i ∧ i ≤ toks.length ∧ fr ≤ cs.length ∧ op ≤ i ∧ outs.length ≤ i ∧ wr.ownsRow w2.heap.size 9 1 (.slice ao outs.length co) outs.length (outs.map Value.string) ∧ Hid (outs ++ rspl cs ((toks.drop i).map TokG.core) fr op = rspl cs (toks.map TokG.core) 0 0) ∧ Hid (∀ x ∈ toks.drop i, fr ≤ x.pl) ∧ Below w2.heap.size w2 wr) (fun _ _ _ iv _ => toks.length - (intOf iv).toNat)
  case atStart => exact ⟨0, 0, 0, [], none, 0, rfl, rfl, rfl, rfl, Nat.zero_le _, Nat.zero_le _, Nat.le_refl _, Nat.le_refl _, World.ownsRow_nil _ _ _ _, rfl, (fun _ _ => Nat.zero_le _), Below.refl _ _⟩
  case round =>
    obtain ⟨i, fr, op, outs, ao, co, rfl, rfl, rfl, rfl, hil, hfc, hoi, hou, hO, HS, HK, hb⟩ := hrel
    have hsz := hb.size
    by_cases hlt : i < toks.length
    case neg =>
      have HR : Hid (rsplitF ne s = (outs, 0, 0)) := by
        unfold Hid
        rw [HF.out, ← HS.out, List.drop_of_length_le (by omega)]
        simp [rspl]
      have g1 := (k1.trans (k2.mono s1)).trans (hb.mono (by omega))
      clear HS HK HC HF
      go_wp2
      refine bodyPost_ret (v := .tuple #[.slice ao outs.length co, .int .i64 0, .int .i64 0]) (by simp [results, Tryz.results5, go_sem]) rfl ?_
      exact ⟨.slice ao outs.length co, by rw [HR.out]; rfl, by rw [HR.out]; exact row_mono hO (by omega), g1⟩
    obtain ⟨g, rfl, hc1, hc2, hgl⟩ := row_ptr HROW.out (by omega)
    have hcell := HC.out g rfl hgl wr hb i hlt
    have q0 : wr.cell? ⟨g, i * 5, none⟩ = some (.int .i64 (toks[i]).kd) := hcell 0 (by omega)
    have q1 : wr.cell? ⟨g, i * 5 + 1, none⟩ = some (.string (toks[i]).tx) := hcell 1 (by omega)
    have q2 : wr.cell? ⟨g, i * 5 + 2, none⟩ = some (.int .i64 (toks[i]).pl) := hcell 2 (by omega)
    have q3 : wr.cell? ⟨g, i * 5 + 3, none⟩ = some (.slice (toks[i]).a1 (toks[i]).n1 (toks[i]).c1) := hcell 3 (by omega)
    have q4 : wr.cell? ⟨g, i * 5 + 4, none⟩ = some (.slice (toks[i]).a2 (toks[i]).n2 (toks[i]).c2) := hcell 4 (by omega)
    rw [rspl_step (cs := cs) (op := op) hlt] at HS
    have hpl := HG.out.1 _ (List.getElem_mem hlt)
    have hfp : fr ≤ (toks[i]).pl := HK.out _ (by rw [rest_step hlt]; exact List.mem_cons_self)
    have HK1 : Hid (∀ x ∈ toks.drop (i + 1), fr ≤ x.pl) := fun x hx => HK.out x (by rw [rest_step hlt]; exact List.mem_cons_of_mem _ hx)
    have HK2 : Hid (∀ x ∈ toks.drop (i + 1), (toks[i]).pl + 1 ≤ x.pl) := fun x hx => by
      have := HG.out.2.sublist (List.drop_sublist i toks)
      rw [rest_step hlt] at this
      exact (List.pairwise_cons.1 this).1 x hx
    clear hcell HK
    generalize toks[i] = X at *
    have NX := boxA_new wr #[.int .i64 X.kd, .string X.tx, .int .i64 X.pl, .slice X.a1 X.n1 X.c1, .slice X.a2 X.n2 X.c2] 46
    have kx := below_alloc wr (.cells #[.int .i64 X.kd, .string X.tx, .int .i64 X.pl, .slice X.a1 X.n1 X.c1, .slice X.a2 X.n2 X.c2] 46)
    have m0 := NX.cell 0 rfl
    have m1 := NX.cell 1 rfl
    have m2 := NX.cell 2 rfl
    have hbx := hb.trans (kx.mono hsz)
    have hOx := hO.alloc (.cells #[.int .i64 X.kd, .string X.tx, .int .i64 X.pl, .slice X.a1 X.n1 X.c1, .slice X.a2 X.n2 X.c2] 46)
    have TD := tx_is X.tx diaT [226, 139, 132] rfl
    have TO := tx_is X.tx opT [123] rfl
    have TC := tx_is X.tx clT [125] rfl
    obtain ⟨bd, pd⟩ := TD
    obtain ⟨bo, po⟩ := TO
    obtain ⟨bc, pc⟩ := TC
    have hdo : ¬ diaT = opT := by decide
    have hdc : ¬ diaT = clT := by decide
    have hoc : ¬ opT = clT := by decide
    have HCUT : Hid (∀ fr' : Nat, (X.kd = 0 ∧ fr' = fr ∨ ((X.kd = 6 ∧ X.tx = diaT) ∧ op = 0) ∧ fr' = X.pl + 1) → (outs ++ [trimT (cutText cs fr X.pl)]) ++ rspl cs ((toks.drop (i + 1)).map TokG.core) fr' op = rspl cs (toks.map TokG.core) 0 0) := by
      intro fr' hfr
      rw [List.append_assoc, ← HS.out]
      rcases hfr with ⟨h0, rfl⟩ | ⟨h, rfl⟩
      · rw [if_neg (by omega), if_neg (by omega), if_neg (by omega), if_pos h0]; rfl
      · rw [if_neg (fun h' => hdo (h.1.2.symm.trans h'.2)), if_neg (fun h' => hdc (h.1.2.symm.trans h'.1.2)), if_pos h]; rfl
    by_cases hcut : X.kd = 0 ∨ (X.kd = 6 ∧ X.tx = diaT) ∧ op = 0
    · obtain ⟨_, _, he, hk3, hk4, hk5⟩ := HRD.out.below hbx
      obtain ⟨rfl, _, rfl⟩ := Value.slice.inj he
      clear he
      have hts : (cutText cs fr X.pl).size ≤ 2000000 := cut_size hpl.1 hcl2
      have HKP : Hid (¬ X.kd = 0 → X.pl < cs.length) := hpl.2
      have hp := hpl.1
      clear hpl
      by_cases hempty : fr = X.pl
      · rw [show cutText cs fr X.pl = ⟨#[]⟩ by rw [← hempty]; exact cut_nil cs fr] at HCUT hts
        have hz : X.pl - fr = 0 := by omega
        have hcA : ∀ (a : Option Addr) (c : Nat), (convert 31 9 (.slice a 0 c)).run Tryz.prog (wr.alloc (.cells #[.int .i64 X.kd, .string X.tx, .int .i64 X.pl, .slice X.a1 X.n1 X.c1, .slice X.a2 X.n2 X.c2] 46)) = .ok (.string ⟨#[]⟩) _ := fun a c => conv_nil _ a c
        have hcB : ∀ (a : Option Addr) (c : Nat), (convert 31 9 (.slice a (X.pl - fr) c)).run Tryz.prog (wr.alloc (.cells #[.int .i64 X.kd, .string X.tx, .int .i64 X.pl, .slice X.a1 X.n1 X.c1, .slice X.a2 X.n2 X.c2] 46)) = .ok (.string ⟨#[]⟩) _ := fun a c => by rw [hz]; exact conv_nil _ a c
        clear hempty hk5
        rcases HA.out with ⟨rfl, rfl⟩ | ⟨b, rfl⟩
        · have hfr : fr = 0 := by omega
          have hcC : ∀ (a : Option Addr) (c : Nat), (convert 31 9 (.slice a X.pl c)).run Tryz.prog (wr.alloc (.cells #[.int .i64 X.kd, .string X.tx, .int .i64 X.pl, .slice X.a1 X.n1 X.c1, .slice X.a2 X.n2 X.c2] 46)) = .ok (.string ⟨#[]⟩) _ := fun a c => by
            rw [show X.pl = 0 by omega]; exact conv_nil _ a c
          subst hfr
          clear hz
          have h0 : X.kd = 0 := by
            rcases hcut with h | h
            · exact h
            · have := HKP.out (by omega)
              omega
          have e0 : (X.kd == 0) = true := by rw [beq_iff_eq]; exact h0
          have e6 : (X.kd == 6) = false := by rw [beq_eq_false_iff_ne]; omega
          have n6 : ¬ X.kd = 6 := by omega
          obtain ⟨F, hF1, hF2, HF3, HS2⟩ : ∃ F : Nat, F = 0 ∧ F ≤ cs.length ∧ Hid (∀ x ∈ toks.drop (i + 1), F ≤ x.pl) ∧ Hid ((outs ++ [trimT (⟨#[]⟩ : ByteArray)]) ++ rspl cs ((toks.drop (i + 1)).map TokG.core) F op = rspl cs (toks.map TokG.core) 0 0) := ⟨0, rfl, hfc, HK1, HCUT.out 0 (Or.inl ⟨h0, rfl⟩)⟩
          have hgo : True := trivial
          clear h0 hcut pd po pc hdo hdc hoc HCUT HS HK1 HK2 HKP
          go_wp2_with fail
          refine (refTrim_any (⟨#[]⟩ : ByteArray) _ hts).mono ?_
          rintro e w3 ⟨rfl, rfl⟩
          go_wp2_with (at_builtin; refine wpList_append_own _ rfl _ _ 22 rfl w2.heap.size 9 i0 (.string ⟨#[]⟩) 1 16 Tryz.underlying22 hi hz0 hz1 hz2 rfl (by decide) _ _ _ rfl ((hO.alloc _).alloc _) ⟨_, 0, none⟩ 1 1 [.string (trimT (⟨#[]⟩ : ByteArray))] rfl rfl ?c1 ?c2 ?c3 ?c4 ?c5 ?_)
          case c1 =>
            intro j u hj
            match j, hj with
            | 0, hj => simp at hj; subst hj; simp [Addr.add, trimT]
          case c2 => intro u hu; simp at hu; subst hu; rfl
          case c3 => unfold maxLen; omega
          case c4 => omega
          case c5 => simp; omega
          intro v' w4 hown' hgrow _
          have hO4 : w4.ownsRow w2.heap.size 9 1 v' (outs ++ [trimT (⟨#[]⟩ : ByteArray)]).length ((outs ++ [trimT (⟨#[]⟩ : ByteArray)]).map Value.string) := by
            rw [List.length_append, List.map_append]; exact hown'
          obtain ⟨a2, c2, rfl⟩ := row_form2 hO4
          have hrow : ∀ k, (Value.slice ao outs.length co).ownBlock = some k → w2.heap.size ≤ k := fun k hk => (hO.lt k hk).1
          have hb4 : Below w2.heap.size w2 w4 := ((hb.alloc hsz _).alloc (by rw [World.size_alloc]; omega) _).grown hgrow (by rw [World.size_alloc, World.size_alloc]; omega) (fun k hk => hrow k hk)
          clear hown' hgrow hOx hbx hrow NX hO
          go_wp2
          go_roundw
          case rel => exact ⟨i + 1, F, op, outs ++ [trimT (⟨#[]⟩ : ByteArray)], a2, c2, (by first | rfl | simp), (by first | (rw [hF1]; rfl) | (rw [hF1])), (by first | rfl | (rw [hop2]; rfl)), by go_num, by omega, by omega, by omega, (by simp; omega), hO4, HS2, HF3, hb4⟩
          case measure => simp [intOf]; omega
        by_cases hcz : c - fr = 0
        · obtain rfl : fr = c := by omega
          clear hcz
          have h0 : X.kd = 0 := by
            rcases hcut with h | h
            · exact h
            · have := HKP.out (by omega)
              omega
          have e0 : (X.kd == 0) = true := by rw [beq_iff_eq]; exact h0
          have e6 : (X.kd == 6) = false := by rw [beq_eq_false_iff_ne]; omega
          have n6 : ¬ X.kd = 6 := by omega
          obtain ⟨F, hF1, hF2, HF3, HS2⟩ : ∃ F : Nat, F = fr ∧ F ≤ cs.length ∧ Hid (∀ x ∈ toks.drop (i + 1), F ≤ x.pl) ∧ Hid ((outs ++ [trimT (⟨#[]⟩ : ByteArray)]) ++ rspl cs ((toks.drop (i + 1)).map TokG.core) F op = rspl cs (toks.map TokG.core) 0 0) := ⟨fr, rfl, hfc, HK1, HCUT.out fr (Or.inl ⟨h0, rfl⟩)⟩
          have hgo : True := trivial
          clear h0 hcut pd po pc hdo hdc hoc HCUT HS HK1 HK2 HKP
          go_wp2_with fail
          refine (refTrim_any (⟨#[]⟩ : ByteArray) _ hts).mono ?_
          rintro e w3 ⟨rfl, rfl⟩
          go_wp2_with (at_builtin; refine wpList_append_own _ rfl _ _ 22 rfl w2.heap.size 9 i0 (.string ⟨#[]⟩) 1 16 Tryz.underlying22 hi hz0 hz1 hz2 rfl (by decide) _ _ _ rfl (hOx.alloc _) ⟨_, 0, none⟩ 1 1 [.string (trimT (⟨#[]⟩ : ByteArray))] rfl rfl ?c1 ?c2 ?c3 ?c4 ?c5 ?_)
          case c1 =>
            intro j u hj
            match j, hj with
            | 0, hj => simp at hj; subst hj; simp [Addr.add, trimT]
          case c2 => intro u hu; simp at hu; subst hu; rfl
          case c3 => unfold maxLen; omega
          case c4 => omega
          case c5 => simp; omega
          intro v' w4 hown' hgrow _
          have hO4 : w4.ownsRow w2.heap.size 9 1 v' (outs ++ [trimT (⟨#[]⟩ : ByteArray)]).length ((outs ++ [trimT (⟨#[]⟩ : ByteArray)]).map Value.string) := by
            rw [List.length_append, List.map_append]; exact hown'
          obtain ⟨a2, c2, rfl⟩ := row_form2 hO4
          have hrow : ∀ k, (Value.slice ao outs.length co).ownBlock = some k → w2.heap.size ≤ k := fun k hk => (hOx.lt k hk).1
          have hb4 : Below w2.heap.size w2 w4 := (hbx.alloc (by rw [World.size_alloc]; omega) _).grown hgrow (by rw [World.size_alloc, World.size_alloc]; omega) (fun k hk => hrow k hk)
          have NX4 := (NX.below (below_alloc _ (.cells #[.string (trimT (⟨#[]⟩ : ByteArray))] 9)) NX.lt).grown hgrow (fun e => by have := (hO.lt _ e).2; omega)
          have m4 := NX4.cell 2 rfl
          clear hown' hgrow hOx hbx hrow NX NX4 hO
          go_wp2
          go_roundw
          case rel => exact ⟨i + 1, F, op, outs ++ [trimT (⟨#[]⟩ : ByteArray)], a2, c2, (by first | rfl | simp), (by first | (rw [hF1]; rfl) | (rw [hF1])), (by first | rfl | (rw [hop2]; rfl)), by go_num, by omega, by omega, by omega, (by simp; omega), hO4, HS2, HF3, hb4⟩
          case measure => simp [intOf]; omega
        · have hci : ¬ c = fr := by omega
          by_cases h0 : X.kd = 0
          case' pos =>
            have e0 : (X.kd == 0) = true := by rw [beq_iff_eq]; exact h0
            have e6 : (X.kd == 6) = false := by rw [beq_eq_false_iff_ne]; omega
            have n6 : ¬ X.kd = 6 := by omega
            obtain ⟨F, hF1, hF2, HF3, HS2⟩ : ∃ F : Nat, F = fr ∧ F ≤ cs.length ∧ Hid (∀ x ∈ toks.drop (i + 1), F ≤ x.pl) ∧ Hid ((outs ++ [trimT (⟨#[]⟩ : ByteArray)]) ++ rspl cs ((toks.drop (i + 1)).map TokG.core) F op = rspl cs (toks.map TokG.core) 0 0) := ⟨fr, rfl, hfc, HK1, HCUT.out fr (Or.inl ⟨h0, rfl⟩)⟩
            have hgo : True := trivial
          case' neg =>
            obtain ⟨⟨h6, h3⟩, hop⟩ := hcut.resolve_left h0
            have e0 : (X.kd == 0) = false := by rw [beq_eq_false_iff_ne]; exact h0
            have e6 : (X.kd == 6) = true := by rw [beq_iff_eq]; exact h6
            have no2 : ¬ X.tx.toList = [123] := fun h => hdo (h3.symm.trans (po.1 h))
            have nc2 : ¬ X.tx.toList = [125] := fun h => hdc (h3.symm.trans (pc.1 h))
            have hd3 : X.tx.toList = [226, 139, 132] := pd.2 h3
            rw [decide_eq_true h3] at bd
            rw [decide_eq_false (fun h => hdo (h3.symm.trans h))] at bo
            rw [decide_eq_false (fun h => hdc (h3.symm.trans h))] at bc
            obtain ⟨F, hF1, hF2, HF3, HS2⟩ : ∃ F : Nat, (F : Int) = (X.pl : Int) + 1 ∧ F ≤ cs.length ∧ Hid (∀ x ∈ toks.drop (i + 1), F ≤ x.pl) ∧ Hid ((outs ++ [trimT (⟨#[]⟩ : ByteArray)]) ++ rspl cs ((toks.drop (i + 1)).map TokG.core) F op = rspl cs (toks.map TokG.core) 0 0) := ⟨X.pl + 1, by omega, HKP.out h0, HK2, HCUT.out _ (Or.inr ⟨⟨⟨h6, h3⟩, hop⟩, rfl⟩)⟩
            have hop2 : op = 0 := hop
            clear h6 h3
          all_goals
            clear h0 hcut pd po pc hdo hdc hoc HCUT HS HK1 HK2 HKP
            go_wp2_with fail
            refine (refTrim_any (⟨#[]⟩ : ByteArray) _ hts).mono ?_
            rintro e w3 ⟨rfl, rfl⟩
            go_wp2_with (at_builtin; refine wpList_append_own _ rfl _ _ 22 rfl w2.heap.size 9 i0 (.string ⟨#[]⟩) 1 16 Tryz.underlying22 hi hz0 hz1 hz2 rfl (by decide) _ _ _ rfl (hOx.alloc _) ⟨_, 0, none⟩ 1 1 [.string (trimT (⟨#[]⟩ : ByteArray))] rfl rfl ?c1 ?c2 ?c3 ?c4 ?c5 ?_)
            case c1 =>
              intro j u hj
              match j, hj with
              | 0, hj => simp at hj; subst hj; simp [Addr.add, trimT]
            case c2 => intro u hu; simp at hu; subst hu; rfl
            case c3 => unfold maxLen; omega
            case c4 => omega
            case c5 => simp; omega
            intro v' w4 hown' hgrow _
            have hO4 : w4.ownsRow w2.heap.size 9 1 v' (outs ++ [trimT (⟨#[]⟩ : ByteArray)]).length ((outs ++ [trimT (⟨#[]⟩ : ByteArray)]).map Value.string) := by
              rw [List.length_append, List.map_append]; exact hown'
            obtain ⟨a2, c2, rfl⟩ := row_form2 hO4
            have hrow : ∀ k, (Value.slice ao outs.length co).ownBlock = some k → w2.heap.size ≤ k := fun k hk => (hOx.lt k hk).1
            have hb4 : Below w2.heap.size w2 w4 := (hbx.alloc (by rw [World.size_alloc]; omega) _).grown hgrow (by rw [World.size_alloc, World.size_alloc]; omega) (fun k hk => hrow k hk)
            have NX4 := (NX.below (below_alloc _ (.cells #[.string (trimT (⟨#[]⟩ : ByteArray))] 9)) NX.lt).grown hgrow (fun e => by have := (hO.lt _ e).2; omega)
            have m4 := NX4.cell 2 rfl
            clear hown' hgrow hOx hbx hrow NX NX4 hO
            go_wp2
            go_roundw
            case rel => exact ⟨i + 1, F, op, outs ++ [trimT (⟨#[]⟩ : ByteArray)], a2, c2, (by first | rfl | simp), (by first | (rw [hF1]; rfl) | (rw [hF1])), (by first | rfl | (rw [hop2]; rfl)), by go_num, by omega, by omega, by omega, (by simp; omega), hO4, HS2, HF3, hb4⟩
            case measure => simp [intOf]; omega
      obtain ⟨b, off, rfl, hbl, hcc⟩ : ∃ b off, a = some ⟨b, off, none⟩ ∧ b < w2.heap.size ∧ ∀ j, j < cs.length → (wr.alloc (.cells #[.int .i64 X.kd, .string X.tx, .int .i64 X.pl, .slice X.a1 X.n1 X.c1, .slice X.a2 X.n2 X.c2] 46)).cell? ⟨b, off + j, none⟩ = some (.int .i32 (cs.getD j 0)) := by
        rcases hk5 with h | ⟨b, off, h3, h4, h5⟩
        · omega
        · exact ⟨b, off, h3, h4, h5⟩
      have hcv := conv_cutS (cap := c) (i := fr) (j := X.pl) hp hcc
      generalize cutText cs fr X.pl = TX at *
      have hci : ¬ c = fr := by omega
      have hcj : ¬ fr = c := by omega
      have hcz : ¬ c - fr = 0 := by omega
      clear hcc hk5
      by_cases h0 : X.kd = 0
      case' pos =>
        have e0 : (X.kd == 0) = true := by rw [beq_iff_eq]; exact h0
        have e6 : (X.kd == 6) = false := by rw [beq_eq_false_iff_ne]; omega
        have n6 : ¬ X.kd = 6 := by omega
        obtain ⟨F, hF1, hF2, HF3, HS2⟩ : ∃ F : Nat, F = fr ∧ F ≤ cs.length ∧ Hid (∀ x ∈ toks.drop (i + 1), F ≤ x.pl) ∧ Hid ((outs ++ [trimT TX]) ++ rspl cs ((toks.drop (i + 1)).map TokG.core) F op = rspl cs (toks.map TokG.core) 0 0) := ⟨fr, rfl, hfc, HK1, HCUT.out fr (Or.inl ⟨h0, rfl⟩)⟩
        have hgo : True := trivial
      case' neg =>
        obtain ⟨⟨h6, h3⟩, hop⟩ := hcut.resolve_left h0
        have e0 : (X.kd == 0) = false := by rw [beq_eq_false_iff_ne]; exact h0
        have e6 : (X.kd == 6) = true := by rw [beq_iff_eq]; exact h6
        have no2 : ¬ X.tx.toList = [123] := fun h => hdo (h3.symm.trans (po.1 h))
        have nc2 : ¬ X.tx.toList = [125] := fun h => hdc (h3.symm.trans (pc.1 h))
        have hd3 : X.tx.toList = [226, 139, 132] := pd.2 h3
        rw [decide_eq_true h3] at bd
        rw [decide_eq_false (fun h => hdo (h3.symm.trans h))] at bo
        rw [decide_eq_false (fun h => hdc (h3.symm.trans h))] at bc
        obtain ⟨F, hF1, hF2, HF3, HS2⟩ : ∃ F : Nat, (F : Int) = (X.pl : Int) + 1 ∧ F ≤ cs.length ∧ Hid (∀ x ∈ toks.drop (i + 1), F ≤ x.pl) ∧ Hid ((outs ++ [trimT TX]) ++ rspl cs ((toks.drop (i + 1)).map TokG.core) F op = rspl cs (toks.map TokG.core) 0 0) := ⟨X.pl + 1, by omega, HKP.out h0, HK2, HCUT.out _ (Or.inr ⟨⟨⟨h6, h3⟩, hop⟩, rfl⟩)⟩
        have hop2 : op = 0 := hop
        clear h6 h3
      all_goals
        clear h0 hcut pd po pc hdo hdc hoc HCUT HS HK1 HK2 HKP
        go_wp2_with fail
        refine (refTrim_any TX _ hts).mono ?_
        rintro e w3 ⟨rfl, rfl⟩
        go_wp2_with (at_builtin; refine wpList_append_own _ rfl _ _ 22 rfl w2.heap.size 9 i0 (.string ⟨#[]⟩) 1 16 Tryz.underlying22 hi hz0 hz1 hz2 rfl (by decide) _ _ _ rfl (hOx.alloc _) ⟨_, 0, none⟩ 1 1 [.string (trimT TX)] rfl rfl ?c1 ?c2 ?c3 ?c4 ?c5 ?_)
        case c1 =>
          intro j u hj
          match j, hj with
          | 0, hj => simp at hj; subst hj; simp [Addr.add, trimT]
        case c2 => intro u hu; simp at hu; subst hu; rfl
        case c3 => unfold maxLen; omega
        case c4 => omega
        case c5 => simp; omega
        intro v' w4 hown' hgrow _
        have hO4 : w4.ownsRow w2.heap.size 9 1 v' (outs ++ [trimT TX]).length ((outs ++ [trimT TX]).map Value.string) := by
          rw [List.length_append, List.map_append]; exact hown'
        obtain ⟨a2, c2, rfl⟩ := row_form2 hO4
        have hrow : ∀ k, (Value.slice ao outs.length co).ownBlock = some k → w2.heap.size ≤ k := fun k hk => (hOx.lt k hk).1
        have hb4 : Below w2.heap.size w2 w4 := (hbx.alloc (by rw [World.size_alloc]; omega) _).grown hgrow (by rw [World.size_alloc, World.size_alloc]; omega) (fun k hk => hrow k hk)
        have NX4 := (NX.below (below_alloc _ (.cells #[.string (trimT TX)] 9)) NX.lt).grown hgrow (fun e => by have := (hO.lt _ e).2; omega)
        have m4 := NX4.cell 2 rfl
        clear hown' hgrow hOx hbx hrow NX NX4 hO
        go_wp2
        go_roundw
        case rel => exact ⟨i + 1, F, op, outs ++ [trimT TX], a2, c2, (by first | rfl | simp), (by first | (rw [hF1]; rfl) | (rw [hF1])), (by first | rfl | (rw [hop2]; rfl)), by go_num, by omega, by omega, by omega, (by simp; omega), hO4, HS2, HF3, hb4⟩
        case measure => simp [intOf]; omega
    by_cases h6 : X.kd = 6
    case neg =>
      have h0 : ¬ X.kd = 0 := fun h => hcut (Or.inl h)
      rw [if_neg (fun h => h6 h.1), if_neg (fun h => h6 h.1.1), if_neg (fun h => h6 h.1.1), if_neg h0] at HS
      have e0 : (X.kd == 0) = false := by rw [beq_eq_false_iff_ne]; exact h0
      have e6 : (X.kd == 6) = false := by rw [beq_eq_false_iff_ne]; exact h6
      clear pd po pc bd bo bc hdo hdc hoc hcut HCUT HK2
      go_wp2
      go_roundw
      case rel => exact ⟨i + 1, fr, op, outs, ao, co, rfl, rfl, rfl, by go_num, by omega, by omega, by omega, by omega, hOx, HS, HK1, hbx⟩
      case measure => simp [intOf]; omega
    have e0 : (X.kd == 0) = false := by rw [beq_eq_false_iff_ne]; omega
    have e6 : (X.kd == 6) = true := by rw [beq_iff_eq]; exact h6
    have n0 : ¬ X.kd = 0 := by omega
    by_cases h1 : X.tx = opT
    · rw [if_pos ⟨h6, h1⟩] at HS
      have ho3 : X.tx.toList = [123] := po.2 h1
      rw [decide_eq_true h1] at bo
      clear h6 h1 hcut pd po pc bc bd hdo hdc hoc HK2 HCUT
      go_wp2
      go_roundw
      case rel => exact ⟨i + 1, fr, op + 1, outs, ao, co, rfl, rfl, by go_num, by go_num, by omega, by omega, by omega, by omega, hOx, HS, HK1, hbx⟩
      case measure => simp [intOf]; omega
    rw [if_neg (fun h => h1 h.2)] at HS
    have no2 : ¬ X.tx.toList = [123] := fun h => h1 (po.1 h)
    rw [decide_eq_false h1] at bo
    by_cases h2 : X.tx = clT ∧ 0 < op
    · rw [if_pos ⟨⟨h6, h2.1⟩, h2.2⟩] at HS
      obtain ⟨h2, hop⟩ := h2
      have hc3 : X.tx.toList = [125] := pc.2 h2
      rw [decide_eq_true h2] at bc
      clear h6 h1 hcut pd po pc h2 bd hdo hdc hoc HK2 HCUT
      go_wp2
      go_roundw
      case rel => exact ⟨i + 1, fr, op - 1, outs, ao, co, rfl, rfl, by go_num, by go_num, by omega, by omega, by omega, by omega, hOx, HS, HK1, hbx⟩
      case measure => simp [intOf]; omega
    rw [if_neg (fun h => h2 ⟨h.1.2, h.2⟩), if_neg (fun h => hcut (Or.inr h)), if_neg n0] at HS
    by_cases h3 : X.tx = diaT
    · have hop : 0 < op := by
        rcases Nat.eq_zero_or_pos op with h | h
        · exact absurd (Or.inr ⟨⟨h6, h3⟩, h⟩) hcut
        · exact h
      have nc : ¬ X.tx = clT := fun h => hdc (h3.symm.trans h)
      have nc2 : ¬ X.tx.toList = [125] := fun h => nc (pc.1 h)
      have hd3 : X.tx.toList = [226, 139, 132] := pd.2 h3
      rw [decide_eq_true h3] at bd
      rw [decide_eq_false nc] at bc
      clear h6 h1 h2 h3 hcut pd po pc hdo hdc hoc nc HK2 HCUT
      go_wp2
      go_roundw
      case rel => exact ⟨i + 1, fr, op, outs, ao, co, rfl, rfl, rfl, by go_num, by omega, by omega, by omega, by omega, hOx, HS, HK1, hbx⟩
      case measure => simp [intOf]; omega
    have nd2 : ¬ X.tx.toList = [226, 139, 132] := fun h => h3 (pd.1 h)
    rw [decide_eq_false h3] at bd
    by_cases h4 : X.tx = clT
    · have hop : op = 0 := by
        rcases Nat.eq_zero_or_pos op with h | h
        · exact h
        · exact absurd ⟨h4, h⟩ h2
      subst hop
      have hc3 : X.tx.toList = [125] := pc.2 h4
      rw [decide_eq_true h4] at bc
      clear h6 h1 h2 h3 h4 hcut pd po pc hdo hdc hoc HK2 HCUT
      go_wp2
      go_roundw
      case rel => exact ⟨i + 1, fr, 0, outs, ao, co, rfl, rfl, rfl, by go_num, by omega, by omega, by omega, by omega, hOx, HS, HK1, hbx⟩
      case measure => simp [intOf]; omega
    have nc2 : ¬ X.tx.toList = [125] := fun h => h4 (pc.1 h)
    rw [decide_eq_false h4] at bc
    clear h6 h1 h2 h3 h4 hcut pd po pc hdo hdc hoc HK2 HCUT
    go_wp2
    go_roundw
    case rel => exact ⟨i + 1, fr, op, outs, ao, co, rfl, rfl, rfl, by go_num, by omega, by omega, by omega, by omega, hOx, HS, HK1, hbx⟩
    case measure => simp [intOf]; omega
end Go.Proofs.YtflohhdaijlflaaGreatDoor

/- The walk over LexSplits. -/
namespace Go.Proofs.YtflohhdaijlflaaGreatDoor
set_option linter.unusedVariables false
set_option linter.unusedSimpArgs false
open Go.RowKit Go.Shelf

set_option maxRecDepth 100000 in
set_option maxHeartbeats 6400000 in
theorem lexSplits_walk {w : World} (s : ByteArray) (hs : s.size ≤ 9223372036854775807) (hT : Lib.Utf8Tabs 0 1 w) :
    Calls Tryz.prog 3 #[.string s] w fun e w' => e = .returned (.bool true) ∧ Below w.heap.size w w' := by
  obtain ⟨ne, hne⟩ := tellsErr_ex
  have HNE : Hid (TellsErr ne) := hne
  have HT : Hid (Lib.Utf8Tabs 0 1 w) := hT
  have HQ : Hid (splitF ne s = rsplitF ne s) := split_eq ne s
  clear hne hT
  go_enter Tryz.func3, Tryz.ntmps3
  go_wp2_with fail
  refine (lexSplit_any HNE.out s hs).mono ?_
  rintro e w1 ⟨v1, rfl, hr1, k1⟩
  obtain ⟨a1, c1, rfl⟩ := row_form2 hr1
  have s1 := k1.size
  go_wp2_with fail
  refine (refSplit_any HNE.out s hs (Utf8Tabs.to HT.out k1 (Nat.le_refl _))).mono ?_
  rintro e w2 ⟨v2, rfl, hr2, k2⟩
  rw [← HQ.out] at hr2 ⊢
  obtain ⟨a2, c2, rfl⟩ := row_form2 hr2
  have s2 := k2.size
  go_wp2_with fail
  refine (live_lex _).mono ?_
  rintro e w3 ⟨rfl, k3⟩
  have s3 := k3.size
  have HR1 : Hid (w3.ownsRow w.heap.size 9 1 (.slice a1 (splitF ne s).1.length c1) (splitF ne s).1.length ((splitF ne s).1.map Value.string)) := row_below (row_below hr1 k2 (Nat.le_refl _)) k3 (Nat.le_refl _)
  have HR2 : Hid (w3.ownsRow w1.heap.size 9 1 (.slice a2 (splitF ne s).1.length c2) (splitF ne s).1.length ((splitF ne s).1.map Value.string)) := row_below hr2 k3 (Nat.le_refl _)
  have gf : Below w.heap.size w w3 := (k1.trans (k2.mono s1)).trans (k3.mono (by omega))
  clear hr1 hr2 k1 k2 k3 HQ HNE HT
  have hmx : (splitF ne s).1.length ≤ 9223372036854775807 := by
    rcases Nat.eq_zero_or_pos (splitF ne s).1.length with h | h
    · omega
    · obtain ⟨_, _, h1, h2, _⟩ := row_ptr HR1.out h
      omega
  generalize (splitF ne s).2.1 = ER at *
  generalize (splitF ne s).2.2 = AT at *
  generalize (splitF ne s).1 = L at *
  have h1 : (ER == ER) = true := beq_self_eq_true _
  have h2 : ((AT : Int) == (AT : Int)) = true := beq_self_eq_true _
  have h3 : ((L.length : Int) == (L.length : Int)) = true := beq_self_eq_true _
  go_wp2
  go_loopw [9] (fun iv wr => ∃ i : Nat, iv = .int .i64 i ∧ i ≤ L.length ∧ Below w3.heap.size w3 wr) (fun iv _ => L.length - (intOf iv).toNat)
  case atStart => exact ⟨0, rfl, Nat.zero_le _, Below.refl _ _⟩
  case round =>
    obtain ⟨i, rfl, hil, hb⟩ := hrel
    by_cases hlt : i < L.length
    · obtain ⟨g1, rfl, _, _, hg1⟩ := row_ptr HR1.out (by omega)
      obtain ⟨g2, rfl, _, _, hg2⟩ := row_ptr HR2.out (by omega)
      have q1 : wr.cell? ⟨g1, i, none⟩ = some (.string L[i]) := by rw [hb.cell (p := ⟨g1, i, none⟩) hg1, HR1.out.cellAt i (by omega)]; simp [hlt]
      have q2 : wr.cell? ⟨g2, i, none⟩ = some (.string L[i]) := by rw [hb.cell (p := ⟨g2, i, none⟩) hg2, HR2.out.cellAt i (by omega)]; simp [hlt]
      generalize L[i] = T at *
      have h4 : (T.toList == T.toList) = true := beq_self_eq_true _
      go_wp2
      go_region
      all_goals
        go_wp2
        go_roundw
        case rel => exact ⟨i + 1, by go_num, by omega, (by first | exact hb | exact hb.trans ⟨rfl, rfl, rfl, Nat.le_refl _, fun _ _ => rfl⟩)⟩
        case measure => simp [intOf]; omega
    · go_wp2
      go_ret
      exact ⟨rfl, gf.trans (hb.mono (by omega))⟩
end Go.Proofs.YtflohhdaijlflaaGreatDoor
