/- lex.tokens, with the tokens' arrays. -/
import Derived.Test.YthfmicokddcglaaGreatDoorLH
import Derived.Test.YthfmicokddcglaaGreatDoorLA
namespace Go.Proofs.YthfmicokddcglaaGreatDoor
set_option linter.unusedVariables false
set_option linter.unusedSimpArgs false
open Go.RowKit Go.Shelf

attribute [local go_sem] Oper.semAt_some

set_option maxRecDepth 100000 in
set_option maxHeartbeats 6400000 in
theorem toks_paysA {w : World} {cs : List Int} {a : Option Addr} {cap Bn n₀ : Nat} {ne : ByteArray → Int} {na : ByteArray → Tr} (hne : TellsErr ne) (hna : TellsArr na) (n : Nat) (hn : 2 ≤ n) (hl : cs.length ≤ 1024) (hrd : RdR n₀ w (.slice a cs.length cap) cs)
    (hn₀ : n₀ ≤ Bn) (hBn : BoxA w Bn 22 #[.slice a cs.length cap]) (hok : ∀ c ∈ cs, okRune c) :
    PaysX Fence.wide n Tryz.prog 17 #[.pointer (some ⟨Bn, 0, none⟩)] TokG.encs (KeepG n₀ Bn) (fun pre x W => (∃ r, pre.map TokG.core ++ x.core :: r = items ne cs) ∧ TA w.heap.size W x.a1 x.n1 x.c1 x.a2 x.n2 x.c2 (arrF na x.kd x.tx)) (fun xs _ => xs.map TokG.core = items ne cs) (fun xs => xs.map TokG.core <+: items ne cs) w := by
  intro l J Jx W hW hJ hJx hY hJ0
  obtain ⟨a', cap', he, hk, hcap, hpl⟩ := hrd
  cases he
  have HNE : Hid (TellsErr ne) := hne
  have HNA : Hid (TellsArr na) := hna
  have HOK : Hid (∀ c ∈ cs, okRune c) := hok
  clear hne hna hok
  have hBw := hBn.lt
  have HC : Hid (∀ {W' : World}, Below n₀ W W' → RdR n₀ W' (.slice a cs.length cap) cs) := fun {W'} hb' => by
    refine ⟨_, cap, rfl, hk, hcap, ?_⟩
    rcases hpl with h | ⟨b, off, h1, h2, h3⟩
    · exact Or.inl h
    · exact Or.inr ⟨b, off, h1, h2, fun j hj => ((hb'.cell (p := ⟨b, off + j, none⟩) h2).trans (hW.cell (p := ⟨b, off + j, none⟩) (show b < w.heap.size by omega))).trans (h3 j hj)⟩
  have hBW := hBn.below hW hBw
  have hsW := hW.size
  clear hpl
  have c0 := hBW.cell 0 rfl
  refine callsIn_of_wp Tryz.func17 rfl trivial ?_ rfl
  simp only [Tryz.ntmps17, List.size_toArray, List.length_cons, List.length_nil, Nat.reduceAdd, Nat.reduceSub, Array.replicate_succ, Array.replicate_zero, List.push_toArray, List.append_toArray, List.nil_append, List.cons_append]
  gi_wp2_with fail
  refine ⟨trivial, fun _ => by omega, ?_⟩
  refine (callsIn_wide.2 (passed_zero (HC.out (Below.refl _ _)))).mono ?_
  rintro e w' ⟨rfl, rfl⟩
  clear c0
  have hp0 := (passTo_le (cs := cs) (i := 0) (Nat.zero_le _)).2
  have HI0 : Hid (itemsF ne cs (cs.length + 1) (passTo cs 0) = items ne cs) := rfl
  generalize passTo cs 0 = i0 at *
  gi_wp2
  gi_loopw [3] (fun at' wr => ∃ (i f : Nat) (pre : List TokG), at' = .int .i64 i ∧ J pre wr ∧ KeepG n₀ Bn w' wr ∧ w'.heap.size ≤ wr.heap.size ∧ Hid (pre.map TokG.core ++ itemsF ne cs f i = items ne cs) ∧ i ≤ cs.length ∧ cs.length < i + f) (fun at' _ => cs.length - (intOf at').toNat)
  case atStart => exact ⟨i0, cs.length + 1, [], rfl, hJ0, ⟨Below.refl _ _, rfl⟩, Nat.le_refl _, HI0, hp0, by omega⟩
  case round =>
    obtain ⟨i, f, pre, rfl, hJs, hK, hsz, HI, hile, hfu⟩ := hrel
    obtain ⟨f, rfl⟩ : ∃ f', f = f' + 1 := ⟨f - 1, by omega⟩
    have hBr : BoxA wr Bn 22 #[.slice a cs.length cap] := by unfold BoxA; rw [hK.box]; exact hBW
    have c0 := hBr.cell 0 rfl
    by_cases hil : i < cs.length
    · obtain ⟨b, off, rfl, hb, hcc⟩ : ∃ b off, a = some ⟨b, off, none⟩ ∧ b < n₀ ∧ ∀ j, j < cs.length → wr.cell? ⟨b, off + j, none⟩ = some (.int .i32 (cs.getD j 0)) := by
        obtain ⟨_, _, he, _, _, h⟩ := HC.out hK.below
        cases he
        rcases h with h | ⟨b, off, h1, h2, h3⟩
        · omega
        · exact ⟨b, off, h1, h2, h3⟩
      have HCC : Hid (∀ j, j < cs.length → wr.cell? ⟨b, off + j, none⟩ = some (.int .i32 (cs.getD j 0))) := hcc
      clear hcc
      gi_wp2_with fail
      refine ⟨trivial, fun _ => by omega, ?_⟩
      refine (callsIn_wide.2 (next_anyA HNE.out HNA.out i hil hl hk hcap HCC.out (by omega) HOK.out)).mono ?_
      rintro e w1 (⟨h0, a1, n1, c1, a2, n2, c2, rfl, hTA, k1⟩ | ⟨h0, rfl, k1⟩)
      · have HTA : Hid (TA wr.heap.size w1 a1 n1 c1 a2 n2 c2 (arrF na (nextF ne cs i).1 (cutText cs i (nextF ne cs i).2.1))) := hTA
        clear hTA
        have hje := nextF_end ne cs i hil h0
        have HI2 : Hid (pre.map TokG.core ++ ((nextF ne cs i).1, cutText cs i (nextF ne cs i).2.1, i, (0 : Int)) :: itemsF ne cs f (passTo cs (nextF ne cs i).2.1) = items ne cs) := by
          unfold Hid
          rw [← HI.out, itemsF, if_pos hil, if_pos h0]
        clear h0
        have hpl := passTo_le hje.2
        generalize hX1 : (nextF ne cs i).1 = KD at *
        generalize hX2 : (nextF ne cs i).2.1 = j at *
        clear hX1 hX2
        generalize cutText cs i j = T at *
        have k2 := below_alloc w1 (.cells #[.int .u8 KD, .string T, .int .i64 i, .slice a1 n1 c1, .slice a2 n2 c2] 37)
        have s1 := k1.size
        have t2 : Below wr.heap.size wr _ := k1.trans (k2.mono s1)
        have Tk := boxA_new w1 #[.int .u8 KD, .string T, .int .i64 i, .slice a1 n1 c1, .slice a2 n2 c2] 37
        have hJ2 := hJ pre wr _ none hJs (grown_below t2) (fun r e => by cases e)
        obtain ⟨fn, tmps, assign, body, hy, hRd⟩ := hY pre ⟨KD, T, i, 0, a1, n1, c1, a2, n2, c2⟩ _ hJ2 ⟨⟨_, HI2.out⟩, (HTA.out.below k2).mono (by omega)⟩
        dsimp only [TokG.encs] at hy
        have m0 := Tk.cell 0 rfl
        have m1 := Tk.cell 1 rfl
        have m2 := Tk.cell 2 rfl
        have m3 := Tk.cell 3 rfl
        have m4 := Tk.cell 4 rfl
        gi_wp2
        refine ⟨fun _ => by omega, hRd.mono ?_⟩
        rintro e W3 (⟨rfl, hJ3, hk3⟩ | ⟨rfl, hJ3⟩)
        · have hKr : KeepG n₀ Bn wr (w1.alloc (.cells #[.int .u8 KD, .string T, .int .i64 i, .slice a1 n1 c1, .slice a2 n2 c2] 37)) := ⟨t2.mono (by omega), t2.block Bn (by omega)⟩
          have hK3 := (hK.trans hKr).trans hk3
          have hB3 : BoxA W3 Bn 22 #[.slice (some ⟨b, off, none⟩) cs.length cap] := by unfold BoxA; rw [hK3.box]; exact hBW
          have c3 := hB3.cell 0 rfl
          have sz3 : w'.heap.size ≤ W3.heap.size := by
            have h5 := hk3.below.size
            have h6 := t2.size
            omega
          gi_wp2_with fail
          refine ⟨trivial, fun _ => by omega, ?_⟩
          refine (callsIn_wide.2 (passed_any (HC.out hK3.below) j hje.2)).mono ?_
          rintro e w4 ⟨rfl, rfl⟩
          generalize passTo cs j = p at *
          gi_wp2
          go_roundw
          case rel => exact ⟨p, f, _, rfl, hJ3, hK3, sz3, (by unfold Hid; rw [List.map_append, List.append_assoc]; exact HI2.out), hpl.2, by omega⟩
          case measure => simp [intOf]; omega
        · gi_wp2
          refine bodyPost_ret (results_none rfl _ _ _) rfl ?_
          exact ⟨⟨_, rfl⟩, Or.inr ⟨_, ⟨_, (by rw [List.map_append, List.append_assoc]; exact HI2.out)⟩, hJ3⟩⟩
      · have HI2 : Hid (pre.map TokG.core ++ [((0 : Int), (⟨#[]⟩ : ByteArray), i, (nextF ne cs i).2.2)] = items ne cs) := by
          unfold Hid
          rw [← HI.out, itemsF, if_pos hil, if_neg h0]
        have he0 : ((nextF ne cs i).2.2 == 0) = false := by rw [beq_eq_false_iff_ne]; exact h0
        clear h0
        generalize (nextF ne cs i).2.2 = ER at *
        have k2 := below_alloc w1 (.cells #[.int .u8 0, .string ⟨#[]⟩, .int .i64 0, .slice none 0 0, .slice none 0 0] 37)
        have s1 := k1.size
        have t2 : Below wr.heap.size wr _ := k1.trans (k2.mono s1)
        have hJ2 := hJ pre wr _ none hJs (grown_below t2) (fun r e => by cases e)
        obtain ⟨fn, tmps, assign, body, hy, hRd⟩ := hY pre ⟨0, ⟨#[]⟩, i, ER, none, 0, 0, none, 0, 0⟩ _ hJ2 ⟨⟨_, HI2.out⟩, (by dsimp only; rw [arrF_none na (by decide) (by decide)]; exact TA.none _ _)⟩
        dsimp only [TokG.encs] at hy
        gi_wp2
        refine ⟨fun _ => by omega, hRd.mono ?_⟩
        rintro e W3 (⟨rfl, hJ3, hk3⟩ | ⟨rfl, hJ3⟩)
        · gi_wp2
          refine bodyPost_ret (results_none rfl _ _ _) rfl ?_
          exact ⟨⟨_, rfl⟩, Or.inl ⟨_, (by rw [List.map_append]; exact HI2.out), hJ3⟩⟩
        · gi_wp2
          refine bodyPost_ret (results_none rfl _ _ _) rfl ?_
          exact ⟨⟨_, rfl⟩, Or.inr ⟨_, ⟨[], (by rw [List.append_nil, List.map_append]; exact HI2.out)⟩, hJ3⟩⟩
    · have HI2 : Hid (pre.map TokG.core ++ [((0 : Int), (⟨#[]⟩ : ByteArray), i, (0 : Int))] = items ne cs) := by
        unfold Hid
        rw [← HI.out, itemsF, if_neg hil]
      obtain ⟨fn, tmps, assign, body, hy, hRd⟩ := hY pre ⟨0, ⟨#[]⟩, i, 0, none, 0, 0, none, 0, 0⟩ _ hJs ⟨⟨_, HI2.out⟩, (by dsimp only; rw [arrF_none na (by decide) (by decide)]; exact TA.none _ _)⟩
      dsimp only [TokG.encs] at hy
      gi_wp2
      refine ⟨fun _ => by omega, hRd.mono ?_⟩
      rintro e W3 (⟨rfl, hJ3, hk3⟩ | ⟨rfl, hJ3⟩)
      · gi_wp2
        go_end0
        exact ⟨⟨_, rfl⟩, Or.inl ⟨_, (by rw [List.map_append]; exact HI2.out), hJ3⟩⟩
      · gi_wp2
        go_end0
        exact ⟨⟨_, rfl⟩, Or.inr ⟨_, ⟨[], (by rw [List.append_nil, List.map_append]; exact HI2.out)⟩, hJ3⟩⟩
end Go.Proofs.YthfmicokddcglaaGreatDoor

/- lex.All, with the tokens' arrays. -/
namespace Go.Proofs.YthfmicokddcglaaGreatDoor
set_option linter.unusedVariables false
set_option linter.unusedSimpArgs false
open Go.RowKit Go.Shelf

attribute [local go_sem] Oper.semAt_some

def TAs (na : ByteArray → Tr) (n : Nat) (W : World) (l : List TokG) : Prop := ∀ x ∈ l, TA n W x.a1 x.n1 x.c1 x.a2 x.n2 x.c2 (arrF na x.kd x.tx)
def AllIsA (w : World) (ne : ByteArray → Int) (na : ByteArray → Tr) (s : ByteArray) (e : Ending) (w' : World) : Prop :=
  ∃ (v : Value) (base : Nat) (toks : List TokG), e = .returned (.tuple #[v, .int .i64 (allF ne s).2.1, .int .i64 (((allF ne s).2.2 : Nat) : Int)]) ∧ w'.ownsRow base 37 5 v toks.length (toks.flatMap TokG.cells) ∧ toks.map TokG.core = (allF ne s).1 ∧ TAs na w.heap.size w' toks ∧ Below w.heap.size w w'
theorem ta_grown {base : Nat} {A B : World} {row : Option Nat} {x1 : Option Addr} {n1 y1 : Nat} {x2 : Option Addr} {n2 y2 : Nat} {t : Tr} (h : TA base A x1 n1 y1 x2 n2 y2 t) (hg : A.grownBy B row) (hrow : ∀ k, row = some k → ∃ o : Obj, A.heap[k]? = some o ∧ o.isCells = false) : TA base B x1 n1 y1 x2 n2 y2 t :=
  h.same (fun g o _ ho hc _ => hg.block g (Array.getElem?_eq_some_iff.1 ho).1 (fun e => by
    obtain ⟨o', ho', hc'⟩ := hrow g e.symm
    rw [ho] at ho'
    cases ho'
    rw [hc] at hc'
    cases hc'))
set_option maxRecDepth 100000 in
set_option maxHeartbeats 6400000 in
theorem all_anyA {w : World} {ne : ByteArray → Int} {na : ByteArray → Tr} (hne : TellsErr ne) (hna : TellsArr na) (T : ByteArray) (hs : T.size ≤ 9223372036854775807) :
    Calls Tryz.prog 6 #[.string T] w fun e w' => AllIsA w ne na T e w' := by
  have HNE : Hid (TellsErr ne) := hne
  have HNA : Hid (TellsArr na) := hna
  clear hne hna
  have g1 := below_alloc w (.cells #[.slice none 0 0] 27)
  have g2 := below_alloc (w.alloc (.cells #[.slice none 0 0] 27)) (.cells #[.int .i64 0] 23)
  have g3 := below_alloc ((w.alloc (.cells #[.slice none 0 0] 27)).alloc (.cells #[.int .i64 0] 23)) (.cells #[.int .i64 0] 3)
  have R2 := ((boxA_new w #[.slice none 0 0] 27).below g2 (by simp)).below g3 (by simp; omega)
  have R3 := (boxA_new (w.alloc (.cells #[.slice none 0 0] 27)) #[.int .i64 0] 23).below g3 (by simp)
  have R4 := boxA_new ((w.alloc (.cells #[.slice none 0 0] 27)).alloc (.cells #[.int .i64 0] 23)) #[.int .i64 0] 3
  rw [World.size_alloc] at R3
  rw [World.size_alloc, World.size_alloc] at R4
  have g : Below w.heap.size w _ := g1.trans ((g2.mono g1.size).trans (g3.mono (by simp; omega)))
  have sR : (((w.alloc (.cells #[.slice none 0 0] 27)).alloc (.cells #[.int .i64 0] 23)).alloc (.cells #[.int .i64 0] 3)).heap.size = w.heap.size + 1 + 1 + 1 := by simp
  clear g1 g2 g3
  refine (callsIn_wide (n := 6)).1 ?_
  refine callsIn_of_wp_marks Tryz.func6 rfl trivial ?_ rfl
  simp only [Tryz.ntmps6, List.size_toArray, List.length_cons, List.length_nil, Nat.reduceAdd, Nat.reduceSub, Array.replicate_succ, Array.replicate_zero, List.push_toArray, List.append_toArray, List.nil_append, List.cons_append]
  by_cases hbig : 1024 < T.size
  · have HF : Hid (allF ne T = ([], 25, 0)) := by unfold Hid allF; rw [if_pos hbig]
    have hd13 : decide ((1024 : Int) < ((T.size : Nat) : Int)) = true := by simp; omega
    have p2 := R2.cell 0 rfl
    have p3 := R3.cell 0 rfl
    have p4 := R4.cell 0 rfl
    have f2 := R2.frozen 0
    have f3 := R3.frozen 0
    have f4 := R4.frozen 0
    gi_wp2
    have z1 := below_alloc w (.cells #[.slice none 0 0] 27)
    have z2 := below_alloc (w.alloc (.cells #[.slice none 0 0] 27)) (.cells #[.int .i64 25] 23)
    have z3 := below_alloc ((w.alloc (.cells #[.slice none 0 0] 27)).alloc (.cells #[.int .i64 25] 23)) (.cells #[.int .i64 0] 3)
    have Q2 := ((boxA_new w #[.slice none 0 0] 27).below z2 (by simp)).below z3 (by simp; omega)
    have Q3 := (boxA_new (w.alloc (.cells #[.slice none 0 0] 27)) #[.int .i64 25] 23).below z3 (by simp)
    have Q4 := boxA_new ((w.alloc (.cells #[.slice none 0 0] 27)).alloc (.cells #[.int .i64 25] 23)) #[.int .i64 0] 3
    rw [World.size_alloc] at Q3
    rw [World.size_alloc, World.size_alloc] at Q4
    have x2 := Q2.cell 0 rfl
    have x3 := Q3.cell 0 rfl
    have x4 := Q4.cell 0 rfl
    refine ⟨.tuple #[.slice none 0 0, .int .i64 25, .int .i64 0], by simp [results, Tryz.results6, go_sem, x2, x3, x4], .slice none 0 0, 0, [], by rw [HF.out]; rfl, World.ownsRow_nil _ _ _ _, by rw [HF.out]; rfl, (fun x h => by cases h), ?_⟩
    exact z1.trans ((z2.mono z1.size).trans (z3.mono (by simp; omega)))
  have hd13 : decide ((1024 : Int) < ((T.size : Nat) : Int)) = false := by simp; omega
  gi_wp2_with fail
  refine ⟨trivial, ?_⟩
  refine (callsIn_wide.2 (runes_all T _ (by omega))).mono ?_
  rintro e w1 ⟨cs, a, c, er, at', rfl, hO, HD, k1⟩
  have s1 := k1.size
  by_cases her : er = 0
  case neg =>
    have HF : Hid (allF ne T = ([], er, at')) := by unfold Hid allF; rw [if_neg hbig, HD.out, if_pos her]
    have he0 : (er == 0) = false := by rw [beq_eq_false_iff_ne]; exact her
    have R2' := R2.below k1 (by omega)
    have R3' := R3.below k1 (by omega)
    have R4' := R4.below k1 (by omega)
    have p2 := R2'.cell 0 rfl
    have p3 := R3'.cell 0 rfl
    have p4 := R4'.cell 0 rfl
    have f2 := R2'.frozen 0
    have f3 := R3'.frozen 0
    have f4 := R4'.frozen 0
    gi_wp2
    have q2 := ((R2'.put1 (.slice none 0 0)).other (p := ⟨w.heap.size + 1, 0, none⟩) (show w.heap.size + 1 ≠ w.heap.size by omega) (.int .i64 er)).other (p := ⟨w.heap.size + 1 + 1, 0, none⟩) (show w.heap.size + 1 + 1 ≠ w.heap.size by omega) (.int .i64 ((at' : Nat) : Int))
    have q3 := ((R3'.other (p := ⟨w.heap.size, 0, none⟩) (show w.heap.size ≠ w.heap.size + 1 by omega) (.slice none 0 0)).put1 (.int .i64 er)).other (p := ⟨w.heap.size + 1 + 1, 0, none⟩) (show w.heap.size + 1 + 1 ≠ w.heap.size + 1 by omega) (.int .i64 ((at' : Nat) : Int))
    have q4 := ((R4'.other (p := ⟨w.heap.size, 0, none⟩) (show w.heap.size ≠ w.heap.size + 1 + 1 by omega) (.slice none 0 0)).other (p := ⟨w.heap.size + 1, 0, none⟩) (show w.heap.size + 1 ≠ w.heap.size + 1 + 1 by omega) (.int .i64 er)).put1 (.int .i64 ((at' : Nat) : Int))
    have x2 := q2.cell 0 rfl
    have x3 := q3.cell 0 rfl
    have x4 := q4.cell 0 rfl
    refine ⟨.tuple #[.slice none 0 0, .int .i64 er, .int .i64 ((at' : Nat) : Int)], by simp [results, Tryz.results6, go_sem, x2, x3, x4], .slice none 0 0, 0, [], by rw [HF.out], World.ownsRow_nil _ _ _ _, by rw [HF.out]; rfl, (fun x h => by cases h), ?_⟩
    exact (((g.trans (k1.mono (by omega))).setCell (p := ⟨w.heap.size, 0, none⟩) (Nat.le_refl _) _).setCell (p := ⟨w.heap.size + 1, 0, none⟩) (show w.heap.size ≤ w.heap.size + 1 by omega) _).setCell (p := ⟨w.heap.size + 1 + 1, 0, none⟩) (show w.heap.size ≤ w.heap.size + 1 + 1 by omega) _
  subst her
  have HF0 : Hid (allF ne T = if (lastEr (items ne cs)).1 = 0 then (items ne cs, 0, 0) else ([], lastEr (items ne cs))) := by
    unfold Hid allF
    rw [if_neg hbig, HD.out]
    rfl
  have hcl : cs.length ≤ 1024 := by
    have := scanR_len T T.size 0 [] (by simp) (by omega)
    rw [HD.out] at this
    simp only at this
    omega
  have HOK : Hid (∀ c ∈ cs, okRune c) := by
    have := scanR_ok T T.size 0 [] (fun c hc => by cases hc)
    rw [HD.out] at this
    exact this
  clear HD hs
  gi_wp2_with fail
  refine ⟨trivial, ?_⟩
  refine (callsIn_wide.2 (tokens_any _ _ _ _)).mono ?_
  rintro e w2 ⟨rfl, rfl⟩
  gi_wp2_with fail
  have kA := below_alloc w1 (.cells #[.slice none 0 0] 27)
  have kB := below_alloc (w1.alloc (.cells #[.slice none 0 0] 27)) (.cells #[.slice a cs.length c] 22)
  have kAB : Below w1.heap.size w1 _ := kA.trans (kB.mono kA.size)
  have BO := (boxA_new w1 #[.slice none 0 0] 27).below kB (by simp)
  have BN := boxA_new (w1.alloc (.cells #[.slice none 0 0] 27)) #[.slice a cs.length c] 22
  rw [World.size_alloc] at BN
  have sW : ((w1.alloc (.cells #[.slice none 0 0] 27)).alloc (.cells #[.slice a cs.length c] 22)).heap.size = w1.heap.size + 1 + 1 := by simp
  have HRD1 := (hO.rdR).below kAB
  obtain ⟨W0, hW0⟩ : ∃ W0, (w1.alloc (.cells #[.slice none 0 0] 27)).alloc (.cells #[.slice a cs.length c] 22) = W0 := ⟨_, rfl⟩
  rw [hW0] at kAB BO BN sW HRD1 ⊢
  have HRD : Hid (RdR w1.heap.size W0 (.slice a cs.length c) cs) := HRD1
  clear hW0 HRD1 kA kB hO
  obtain ⟨i0, hi, hz0, hz1, hz2⟩ := info_parts info_tok
  have HLEN : Hid ((items ne cs).length ≤ cs.length + 1) := itemsF_len ne cs (cs.length + 1) (passTo cs 0)
  have HERR : Hid (∀ l r x, l ++ x :: r = items ne cs → ¬ x.2.2.2 = 0 → r = []) := fun l r x h hx => itemsF_err ne cs (cs.length + 1) (passTo cs 0) l r x h hx
  have hseq := toks_paysA (w := W0) (n₀ := w1.heap.size) (Bn := w1.heap.size + 1) (ne := ne) (na := na) HNE.out HNA.out 5 (by omega) (by omega) HRD.out (by omega) BN HOK.out
  have HSEQ : Hid _ := hseq
  clear hseq
  generalize items ne cs = IT at *
  refine wpIn_range_paysX rfl (by omega) (gf := 17) (lb := #[.pointer (some ⟨w1.heap.size + 1, 0, none⟩)]) rfl trivial (enters_of Tryz.func17 (by kernel_rfl) rfl)
    HSEQ.out
    (fun h h' => h.trans h') (fun W l o o' hl ho _ _ => keepG_put (B0 := W0.heap.size) (by omega) (by omega) W l o o' hl ho) (Below.refl _ _) (fun _ => rfl)
    (fun pre W => ((∀ x ∈ pre, x.er = 0) ∧ TAs na W0.heap.size W pre) ∧ ∃ v, BoxA W w1.heap.size 27 #[v] ∧ W.ownsRow W0.heap.size 37 5 v pre.length (pre.flatMap TokG.cells) ∧ Below w1.heap.size W0 W)
    ?hI ⟨⟨(fun x h => by cases h), (fun x h => by cases h)⟩, _, BO, World.ownsRow_nil _ _ _ _, Below.refl _ _⟩ ?hS
    (fun c pre W => c = .ret ∧ ∃ p x, pre = p ++ [x] ∧ ¬ x.er = 0 ∧ BoxA W w.heap.size 27 #[.slice none 0 0] ∧ BoxA W (w.heap.size + 1) 23 #[.int .i64 x.er] ∧ BoxA W (w.heap.size + 1 + 1) 3 #[.int .i64 x.pl] ∧ Below w.heap.size w W ∧ W0.heap.size ≤ W.heap.size) ?hIx
    (fun pre x a' W => (pre.length ≤ 1024 ∧ TA W0.heap.size W x.a1 x.n1 x.c1 x.a2 x.n2 x.c2 (arrF na x.kd x.tx)) ∧ ∃ Bx, W0.heap.size ≤ Bx ∧ BoxA W Bx 37 #[.int .u8 x.kd, .string x.tx, .int .i64 x.pl, .slice x.a1 x.n1 x.c1, .slice x.a2 x.n2 x.c2] ∧ a' = { tmps := #[.string T, undef, .pointer (some ⟨w.heap.size, 0, none⟩), .pointer (some ⟨w.heap.size + 1, 0, none⟩), .pointer (some ⟨w.heap.size + 1 + 1, 0, none⟩), .slice a cs.length c, .int .i64 0, .int .i64 ((at' : Nat) : Int), .pointer (some ⟨w1.heap.size, 0, none⟩), .pointer (some ⟨Bx, 0, none⟩), .int .i64 x.er, .string T, .int .i64 (T.size : Int), .bool false, .tuple #[.slice a cs.length c, .int .i64 0, .int .i64 ((at' : Nat) : Int)], .string T, .tuple #[.slice a cs.length c, .int .i64 0, .int .i64 ((at' : Nat) : Int)], .slice a cs.length c, .int .i64 0, .int .i64 ((at' : Nat) : Int), .int .i64 0, .bool false, undef, undef, .slice a cs.length c, .func (.func 17) #[] #[.pointer (some ⟨w1.heap.size + 1, 0, none⟩)], .agg #[.int .u8 x.kd, .string x.tx, .int .i64 x.pl, .slice x.a1 x.n1 x.c1, .slice x.a2 x.n2 x.c2], .int .i64 x.er, undef, undef, undef, undef, undef, undef, undef, undef, undef, undef], defers := [] })
    ?hAx ?assign ?body ?done ?stop
  case hI =>
    rintro s A B row ⟨he, v, b1, b2, b3⟩ hg hrow
    have hne : row ≠ some w1.heap.size := fun e => by have := (hrow _ e).1; omega
    refine ⟨⟨he.1, fun y hy => ta_grown (he.2 y hy) hg (fun k e => (hrow k e).2)⟩, v, b1.grown hg hne, b2.kept hg ?_, b3.grown hg (by have := b3.size; omega) (fun k e => by have := (hrow k e).1; omega)⟩
    by_cases hv : v.ownBlock = none
    · exact Or.inl hv
    · refine Or.inr (fun e => ?_)
      obtain ⟨_, h | ⟨g, cap, cur, rfl, _, hh, _⟩⟩ := b2
      · rw [h.1] at hv; exact hv rfl
      · obtain ⟨_, o, ho, hc⟩ := hrow g e.symm
        rw [hh] at ho
        cases ho
        cases hc
  case hIx =>
    rintro c s A B row ⟨hc, p, x, hp, hx, b1, b2, b3, b4, b5⟩ hg hrow
    have hlo : ∀ k, row = some k → W0.heap.size ≤ k := fun k e => (hrow k e).1
    exact ⟨hc, p, x, hp, hx, b1.grown hg (fun e => by have := hlo _ e; omega), b2.grown hg (fun e => by have := hlo _ e; omega), b3.grown hg (fun e => by have := hlo _ e; omega), b4.grown hg (by omega) (fun k e => by have := hlo k e; omega), by have := hg.size; omega⟩
  case hS =>
    rintro s A B row h hg hrow
    exact h
  case hAx =>
    rintro pre x a' _ A B row ⟨h1, Bx, h2, h3, h4⟩ hg hrow
    refine ⟨⟨h1.1, ta_grown h1.2 hg (fun k e => (hrow k e).2)⟩, Bx, h2, h3.grown hg (fun e => ?_), h4⟩
    obtain ⟨_, o, ho, hc⟩ := hrow _ e
    unfold BoxA at h3
    rw [h3] at ho
    cases ho
    cases hc
  case assign =>
    rintro l pre x W K ⟨he, v, b1, b2, b3⟩ ⟨⟨rr, hG⟩, hta⟩ hK
    have hpl : pre.length ≤ 1024 := by
      have h5 := HLEN.out
      rw [← hG] at h5
      simp at h5
      omega
    dsimp only [TokG.encs]
    have s3 := b3.size
    have kx := below_alloc W (.cells #[.int .u8 x.kd, .string x.tx, .int .i64 x.pl, .slice x.a1 x.n1 x.c1, .slice x.a2 x.n2 x.c2] 37)
    gi_wp2
    exact hK _ _ ((KeepsOthers.alloc _ _).from _) ⟨kx.mono (by omega), kx.block _ (by omega)⟩ ⟨⟨he.1, fun y hy => (he.2 y hy).below kx⟩, v, b1.below kx b1.lt, b2.alloc _, b3.trans (kx.mono (by omega))⟩ ⟨⟨hpl, hta.below kx⟩, W.heap.size, s3, boxA_new W _ _, rfl⟩
  case body =>
    rintro l pre x a' W ⟨he, v, b1, b2, b3⟩ ⟨hG, Bx, hBx, bX, rfl⟩
    have s3 := b3.size
    have cO := b1.cell 0 rfl
    have fO := b1.frozen 0
    have m0 := bX.cell 0 rfl
    have m1 := bX.cell 1 rfl
    have m2 := bX.cell 2 rfl
    have m3 := bX.cell 3 rfl
    have m4 := bX.cell 4 rfl
    have HHE : Hid (∀ x ∈ pre, x.er = 0) := he.1
    have HTS : Hid (TAs na W0.heap.size W pre) := he.2
    have HTX : Hid (TA W0.heap.size W x.a1 x.n1 x.c1 x.a2 x.n2 x.c2 (arrF na x.kd x.tx)) := hG.2
    replace hG := hG.1
    clear he
    by_cases hxe : x.er = 0
    case neg =>
      have he0 : (x.er == 0) = false := by rw [beq_eq_false_iff_ne]; exact hxe
      have kW : Below w1.heap.size w1 W := kAB.trans b3
      have R2' := (R2.below k1 (by omega)).below kW (by omega)
      have R3' := (R3.below k1 (by omega)).below kW (by omega)
      have R4' := (R4.below k1 (by omega)).below kW (by omega)
      have p2 := R2'.cell 0 rfl
      have p3 := R3'.cell 0 rfl
      have p4 := R4'.cell 0 rfl
      have f2 := R2'.frozen 0
      have f3 := R3'.frozen 0
      have f4 := R4'.frozen 0
      have gW : Below w.heap.size w W := (g.trans (k1.mono (by omega))).trans (kW.mono (by omega))
      gi_wp2
      have n1 : ¬ Bx = w.heap.size := by omega
      have n2 : ¬ Bx = w.heap.size + 1 := by omega
      have n3 : ¬ w.heap.size = Bx := by omega
      have n4 : ¬ w.heap.size + 1 = Bx := by omega
      have q2 := ((R2'.put1 (.slice none 0 0)).other (p := ⟨w.heap.size + 1, 0, none⟩) (show w.heap.size + 1 ≠ w.heap.size by omega) (.int .i64 x.er)).other (p := ⟨w.heap.size + 1 + 1, 0, none⟩) (show w.heap.size + 1 + 1 ≠ w.heap.size by omega) (.int .i64 x.pl)
      have q3 := ((R3'.other (p := ⟨w.heap.size, 0, none⟩) (show w.heap.size ≠ w.heap.size + 1 by omega) (.slice none 0 0)).put1 (.int .i64 x.er)).other (p := ⟨w.heap.size + 1 + 1, 0, none⟩) (show w.heap.size + 1 + 1 ≠ w.heap.size + 1 by omega) (.int .i64 x.pl)
      have q4 := ((R4'.other (p := ⟨w.heap.size, 0, none⟩) (show w.heap.size ≠ w.heap.size + 1 + 1 by omega) (.slice none 0 0)).other (p := ⟨w.heap.size + 1, 0, none⟩) (show w.heap.size + 1 ≠ w.heap.size + 1 + 1 by omega) (.int .i64 x.er)).put1 (.int .i64 x.pl)
      have gZ := ((gW.setCell (p := ⟨w.heap.size, 0, none⟩) (Nat.le_refl _) (.slice none 0 0)).setCell (p := ⟨w.heap.size + 1, 0, none⟩) (show w.heap.size ≤ w.heap.size + 1 by omega) (.int .i64 x.er)).setCell (p := ⟨w.heap.size + 1 + 1, 0, none⟩) (show w.heap.size ≤ w.heap.size + 1 + 1 by omega) (.int .i64 x.pl)
      have kF := (KeepsOthers.setCell W ⟨w.heap.size, 0, none⟩ (.slice none 0 0)).trans ((KeepsOthers.setCell _ ⟨w.heap.size + 1, 0, none⟩ (.int .i64 x.er)).trans (KeepsOthers.setCell _ ⟨w.heap.size + 1 + 1, 0, none⟩ (.int .i64 x.pl)))
      have zs : (((W.setCell ⟨w.heap.size, 0, none⟩ (.slice none 0 0)).setCell ⟨w.heap.size + 1, 0, none⟩ (.int .i64 x.er)).setCell ⟨w.heap.size + 1 + 1, 0, none⟩ (.int .i64 x.pl)).heap.size = W.heap.size := by simp [World.setCell]
      have HZ : Hid (KeepsOthers W (((W.setCell ⟨w.heap.size, 0, none⟩ (.slice none 0 0)).setCell ⟨w.heap.size + 1, 0, none⟩ (.int .i64 x.er)).setCell ⟨w.heap.size + 1 + 1, 0, none⟩ (.int .i64 x.pl)).drew ∧ BoxA (((W.setCell ⟨w.heap.size, 0, none⟩ (.slice none 0 0)).setCell ⟨w.heap.size + 1, 0, none⟩ (.int .i64 x.er)).setCell ⟨w.heap.size + 1 + 1, 0, none⟩ (.int .i64 x.pl)).drew w.heap.size 27 #[.slice none 0 0] ∧ BoxA (((W.setCell ⟨w.heap.size, 0, none⟩ (.slice none 0 0)).setCell ⟨w.heap.size + 1, 0, none⟩ (.int .i64 x.er)).setCell ⟨w.heap.size + 1 + 1, 0, none⟩ (.int .i64 x.pl)).drew (w.heap.size + 1) 23 #[.int .i64 x.er] ∧ BoxA (((W.setCell ⟨w.heap.size, 0, none⟩ (.slice none 0 0)).setCell ⟨w.heap.size + 1, 0, none⟩ (.int .i64 x.er)).setCell ⟨w.heap.size + 1 + 1, 0, none⟩ (.int .i64 x.pl)).drew (w.heap.size + 1 + 1) 3 #[.int .i64 x.pl] ∧ Below w.heap.size w (((W.setCell ⟨w.heap.size, 0, none⟩ (.slice none 0 0)).setCell ⟨w.heap.size + 1, 0, none⟩ (.int .i64 x.er)).setCell ⟨w.heap.size + 1 + 1, 0, none⟩ (.int .i64 x.pl)).drew ∧ W0.heap.size ≤ (((W.setCell ⟨w.heap.size, 0, none⟩ (.slice none 0 0)).setCell ⟨w.heap.size + 1, 0, none⟩ (.int .i64 x.er)).setCell ⟨w.heap.size + 1 + 1, 0, none⟩ (.int .i64 x.pl)).drew.heap.size) :=
        ⟨⟨kF.size, kF.same⟩, q2, q3, q4, gZ.trans ⟨rfl, rfl, rfl, Nat.le_refl _, fun _ _ => rfl⟩, by show W0.heap.size ≤ (((W.setCell ⟨w.heap.size, 0, none⟩ (.slice none 0 0)).setCell ⟨w.heap.size + 1, 0, none⟩ (.int .i64 x.er)).setCell ⟨w.heap.size + 1 + 1, 0, none⟩ (.int .i64 x.pl)).heap.size; omega⟩
      clear q2 q3 q4 gZ kF zs
      gi_region
      all_goals
        gi_wp2_with fail
        obtain ⟨kF, q2, q3, q4, gZ, zs⟩ := HZ.out
        exact ⟨kF.from _, rfl, pre, x, rfl, hxe, q2, q3, q4, gZ, zs⟩
    have he0 : (x.er == 0) = true := by rw [beq_iff_eq]; exact hxe
    have kx := below_alloc W (.cells #[.int .u8 x.kd, .string x.tx, .int .i64 x.pl, .slice x.a1 x.n1 x.c1, .slice x.a2 x.n2 x.c2] 37)
    have NX := boxA_new W #[.int .u8 x.kd, .string x.tx, .int .i64 x.pl, .slice x.a1 x.n1 x.c1, .slice x.a2 x.n2 x.c2] 37
    gi_wp2_with (gi_at_builtin; refine wpListIn_append_own _ rfl _ _ 27 rfl W0.heap.size 37 i0 (.agg #[.int .u8 0, .string ⟨#[]⟩, .int .i64 0, .slice none 0 0, .slice none 0 0]) 5 80 Tryz.underlying27 hi hz0 hz1 hz2 rfl (by decide) _ _ _ rfl (b2.alloc _) ⟨W.heap.size, 0, none⟩ 1 1 x.cells rfl rfl ?c1 ?c2 ?c3 ?c4 ?c5 ?_)
    case c1 => exact fun j u hj => hj
    case c2 =>
      intro u hu
      simp [TokG.cells] at hu
      rcases hu with rfl | rfl | rfl | rfl | rfl <;> rfl
    case c3 => unfold maxLen; omega
    case c4 => omega
    case c5 => have := kx.size; omega
    intro v' wa hown' hgrow _
    obtain ⟨g', cap', rfl⟩ := row_form hown'
    have hrow : ∀ j, v.ownBlock = some j → w1.heap.size + 1 + 1 ≤ j := fun j hj => by have := (b2.lt j hj).1; omega
    have hne : v.ownBlock ≠ some w1.heap.size := fun e => by have := hrow _ e; omega
    have hneN : v.ownBlock ≠ some (w1.heap.size + 1) := fun e => by have := hrow _ e; omega
    have bO2 := (b1.below kx b1.lt).grown hgrow hne
    have cO2 := bO2.cell 0 rfl
    have fO2 := bO2.frozen 0
    have sa := hgrow.size
    have sx := kx.size
    have hty := row_ty (b2.alloc (.cells #[.int .u8 x.kd, .string x.tx, .int .i64 x.pl, .slice x.a1 x.n1 x.c1, .slice x.a2 x.n2 x.c2] 37))
    have kB1 : Below w1.heap.size W wa := (kx.mono (by omega)).grown hgrow (by omega) (fun k e => by have := hrow k e; omega)
    have kF1 : KeepsOthers W wa := (KeepsOthers.alloc W _).trans (KeepsOthers.of_grownBy hgrow (fun j o e ho => by obtain ⟨o', ho', _, hc⟩ := hty j e; rw [ho] at ho'; cases ho'; exact hc))
    have kBox : wa.heap[w1.heap.size + 1]? = W.heap[w1.heap.size + 1]? := (hgrow.block _ (by omega) (fun e => hneN e.symm)).trans (kx.block _ (by omega))
    gi_wp2
    refine ⟨(kF1.trans (KeepsOthers.setCell _ _ _)).from _, ⟨kB1.setCell (p := ⟨w1.heap.size, 0, none⟩) (Nat.le_refl _) _, ?_⟩, ?_, _, bO2.put1 _, ?_, ?_⟩
    · exact (Below.heap_setCell _ _ _ _ (by simp)).trans kBox
    · have hsm : ∀ (gg : Nat) (o : Obj), W0.heap.size ≤ gg → W.heap[gg]? = some o → o.isCells = true → (tyOf o = some 3 ∨ tyOf o = some 45 ∨ tyOf o = some 120) → (wa.setCell ⟨w1.heap.size, 0, none⟩ (.slice (some ⟨g', 0, none⟩) (pre.length + 1) cap')).heap[gg]? = W.heap[gg]? := fun gg o hgg ho _ hoty => by
        have hlt : gg < W.heap.size := (Array.getElem?_eq_some_iff.1 ho).1
        have e1 := kx.block gg hlt
        have hnb : v.ownBlock ≠ some gg := fun e => by
          obtain ⟨o', ho', ht', _⟩ := hty gg e
          rw [e1, ho] at ho'
          cases ho'
          rw [ht'] at hoty
          rcases hoty with h | h | h <;> exact absurd h (by decide)
        exact (Below.heap_setCell _ _ _ _ (show gg ≠ w1.heap.size by omega)).trans ((hgrow.block gg (by omega) (fun e => hnb e.symm)).trans e1)
      refine ⟨fun y hy => ?_, fun y hy => ?_⟩
      · rcases List.mem_append.1 hy with hy | hy
        · exact HHE.out y hy
        · rw [List.mem_singleton.1 hy]; exact hxe
      · rcases List.mem_append.1 hy with hy | hy
        · exact (HTS.out y hy).same hsm
        · rw [List.mem_singleton.1 hy]; exact HTX.out.same hsm
    · have hr := ownsRow_setCell_other hown' (a := ⟨w1.heap.size, 0, none⟩) (fun e => by have := (hown'.lt _ e).1; simp at this; omega) (.slice (some ⟨g', 0, none⟩) (pre.length + 1) cap')
      rw [sW]
      simpa using hr
    · exact (b3.trans kB1).setCell (p := ⟨w1.heap.size, 0, none⟩) (Nat.le_refl _) _
  case done =>
    rintro D xs W hD hxs ⟨he, v, b1, b2, b3⟩ hK
    have HF : Hid (allF ne T = (xs.map TokG.core, 0, 0)) := by
      unfold Hid
      rw [HF0.out, ← hxs, if_pos]
      refine lastEr_zero (fun x hx => ?_)
      obtain ⟨y, hy, rfl⟩ := List.mem_map.1 hx
      exact he.1 y hy
    have HTS : Hid (TAs na W0.heap.size W xs) := he.2
    clear he
    have s3 := b3.size
    have kW : Below w1.heap.size w1 W := kAB.trans b3
    have R2' := (R2.below k1 (by omega)).below kW (by omega)
    have R3' := (R3.below k1 (by omega)).below kW (by omega)
    have R4' := (R4.below k1 (by omega)).below kW (by omega)
    have cO := b1.cell 0 rfl
    have p2 := R2'.cell 0 rfl
    have p3 := R3'.cell 0 rfl
    have p4 := R4'.cell 0 rfl
    have f2 := R2'.frozen 0
    have f3 := R3'.frozen 0
    have f4 := R4'.frozen 0
    obtain ⟨av, cv, rfl⟩ := row_form2 b2
    gi_wp2
    have hK2 := ((KeepsOthers.setCell W ⟨w.heap.size, 0, none⟩ (.slice av xs.length cv)).trans ((KeepsOthers.setCell _ ⟨w.heap.size + 1, 0, none⟩ (.int .i64 0)).trans (KeepsOthers.setCell _ ⟨w.heap.size + 1 + 1, 0, none⟩ (.int .i64 0)))).same D _ hK rfl
    refine ⟨by simp, .inl ⟨_, _, rfl, run_takeDeferred hK2, ?_⟩⟩
    have hgp := grownBy_putObj' (((W.setCell ⟨w.heap.size, 0, none⟩ (.slice av xs.length cv)).setCell ⟨w.heap.size + 1, 0, none⟩ (.int .i64 0)).setCell ⟨w.heap.size + 1 + 1, 0, none⟩ (.int .i64 0)) D (.deferred none)
    have q2 := (((R2'.put1 (.slice av xs.length cv)).other (p := ⟨w.heap.size + 1, 0, none⟩) (show w.heap.size + 1 ≠ w.heap.size by omega) (.int .i64 0)).other (p := ⟨w.heap.size + 1 + 1, 0, none⟩) (show w.heap.size + 1 + 1 ≠ w.heap.size by omega) (.int .i64 0)).grown hgp (fun e => by cases e; omega)
    have q3 := (((R3'.other (p := ⟨w.heap.size, 0, none⟩) (show w.heap.size ≠ w.heap.size + 1 by omega) (.slice av xs.length cv)).put1 (.int .i64 0)).other (p := ⟨w.heap.size + 1 + 1, 0, none⟩) (show w.heap.size + 1 + 1 ≠ w.heap.size + 1 by omega) (.int .i64 0)).grown hgp (fun e => by cases e; omega)
    have q4 := (((R4'.other (p := ⟨w.heap.size, 0, none⟩) (show w.heap.size ≠ w.heap.size + 1 + 1 by omega) (.slice av xs.length cv)).other (p := ⟨w.heap.size + 1, 0, none⟩) (show w.heap.size + 1 ≠ w.heap.size + 1 + 1 by omega) (.int .i64 0)).put1 (.int .i64 0)).grown hgp (fun e => by cases e; omega)
    have x2 := q2.cell 0 rfl
    have x3 := q3.cell 0 rfl
    have x4 := q4.cell 0 rfl
    refine ⟨.tuple #[.slice av xs.length cv, .int .i64 0, .int .i64 0], by simp [results, Tryz.results6, go_sem, x2, x3, x4], .slice av xs.length cv, W0.heap.size, xs, by rw [HF.out]; rfl, ?_, by rw [HF.out], (fun y hy => ((HTS.out y hy).same (fun gg o hgg ho hoc _ => ?_)).mono (by have := kW.size; omega)), ?_⟩
    · have hlo : ∀ j, (Value.slice av xs.length cv).ownBlock = some j → w1.heap.size + 1 + 1 ≤ j := fun j hj => by have := (b2.lt j hj).1; omega
      have hneD : (Value.slice av xs.length cv).ownBlock ≠ some D := fun e => by
        obtain ⟨o, ho, _, hc⟩ := row_ty b2 D e
        rw [hK] at ho
        cases ho
        cases hc
      exact (ownsRow_setCell_other (ownsRow_setCell_other (ownsRow_setCell_other b2 (a := ⟨w.heap.size, 0, none⟩) (fun e => by have := hlo _ e; simp at this; omega) (.slice av xs.length cv)) (a := ⟨w.heap.size + 1, 0, none⟩) (fun e => by have := hlo _ e; simp at this; omega) (.int .i64 0)) (a := ⟨w.heap.size + 1 + 1, 0, none⟩) (fun e => by have := hlo _ e; simp at this; omega) (.int .i64 0)).kept hgp (Or.inr hneD)
    · have hlt : gg < W.heap.size := (Array.getElem?_eq_some_iff.1 ho).1
      have hD2 : some D ≠ some gg := fun e => by
        have e' := Option.some.inj e
        rw [e', ho] at hK
        cases hK
        cases hoc
      exact (hgp.block gg (by simp [World.setCell]; omega) (fun e => hD2 e.symm)).trans (((Below.heap_setCell _ _ _ _ (show gg ≠ w.heap.size + 1 + 1 by have := kW.size; omega)).trans ((Below.heap_setCell _ _ _ _ (show gg ≠ w.heap.size + 1 by have := kW.size; omega)).trans (Below.heap_setCell _ _ _ _ (show gg ≠ w.heap.size by have := kW.size; omega)))))
    · exact ((((((g.trans (k1.mono (by omega))).trans (kW.mono (by omega))).setCell (p := ⟨w.heap.size, 0, none⟩) (Nat.le_refl _) _).setCell (p := ⟨w.heap.size + 1, 0, none⟩) (show w.heap.size ≤ w.heap.size + 1 by omega) _).setCell (p := ⟨w.heap.size + 1 + 1, 0, none⟩) (show w.heap.size ≤ w.heap.size + 1 + 1 by omega) _).grown hgp (by have := kW.size; simp [World.setCell]; omega) (fun k e => by cases e; omega))
  case stop =>
    rintro D c ps W hD hsp ⟨rfl, p, x, rfl, hx, b1, b2, b3, b4, b5⟩ hK
    have HF : Hid (allF ne T = ([], x.er, x.pl)) := by
      unfold Hid
      obtain ⟨rr, hrr⟩ := hsp
      rw [List.map_append, List.append_assoc] at hrr
      have h0 := HERR.out (p.map TokG.core) rr x.core hrr hx
      rw [HF0.out, ← hrr, h0]
      have hl : lastEr (p.map TokG.core ++ (List.map TokG.core [x] ++ [])) = (x.er, x.pl) := lastEr_app _ _
      rw [hl, if_neg hx]
    have p2 := b1.cell 0 rfl
    have p3 := b2.cell 0 rfl
    have p4 := b3.cell 0 rfl
    gi_wp2
    have hDs : D < W.heap.size := (Array.getElem?_eq_some_iff.1 hK).1
    refine ⟨by simp, .inl ⟨_, _, rfl, run_takeDeferred hK, ?_⟩⟩
    have hgp := grownBy_putObj' W D (.deferred none)
    have x2 := (b1.grown hgp (fun e => by cases e; omega)).cell 0 rfl
    have x3 := (b2.grown hgp (fun e => by cases e; omega)).cell 0 rfl
    have x4 := (b3.grown hgp (fun e => by cases e; omega)).cell 0 rfl
    refine ⟨.tuple #[.slice none 0 0, .int .i64 x.er, .int .i64 x.pl], by simp [results, Tryz.results6, go_sem, x2, x3, x4], .slice none 0 0, 0, [], by rw [HF.out], World.ownsRow_nil _ _ _ _, by rw [HF.out]; rfl, (fun x h => by cases h), ?_⟩
    exact b4.grown hgp (by omega) (fun k e => by cases e; omega)
end Go.Proofs.YthfmicokddcglaaGreatDoor
