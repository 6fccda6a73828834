/- The walk over LexBlanks. -/
import Derived.Test.YtkhmbceadeejpaaJG
import Derived.Test.YtkhmbceadeejpaaJF
import Derived.Test.YtkhmbceadeejpaaJA
namespace Go.Proofs.Ytkhmbceadeejpaa
set_option linter.unusedVariables false
set_option linter.unusedSimpArgs false
open Go.RowKit Go.Shelf

theorem app_sizeB (a b : ByteArray) : (a ++ b).size = a.size + b.size := ByteArray.size_append
theorem app_listB (a b : ByteArray) : (a ++ b).data.toList = a.data.toList ++ b.data.toList := by simp
theorem toks_small {ne : ByteArray → Int} {s : ByteArray} (h : (allF ne s).2.1 = 0) : ∀ x ∈ (allF ne s).1, x.2.1.size ≤ 2000000 := by
  obtain ⟨h1, h2, h3, h4⟩ := allF_ok h
  rw [h3]
  have hok : ∀ c ∈ (scanR s s.size 0 []).1, okRune c := scanR_ok s s.size 0 [] (fun c h => by cases h)
  have hl := scanR_len s s.size 0 [] (by simp) (by omega)
  have hp := passTo_le (cs := (scanR s s.size 0 []).1) (i := 0) (Nat.zero_le _)
  exact fun x hx => ((items_good ne _ hok (by omega) _ _ hp.2 (itemsF_er ne _ _ _ h4)).1 x hx).2.2.1
theorem same_ta {base1 base2 : Nat} {W : World} {x1 : Option Addr} {n1 y1 : Nat} {x2 : Option Addr} {n2 y2 : Nat} {z1 : Option Addr} {m1 u1 : Nat} {z2 : Option Addr} {m2 u2 : Nat} {t : Tr} (h1 : TA base1 W x1 n1 y1 x2 n2 y2 t) (h2 : TA base2 W z1 m1 u1 z2 m2 u2 t) :
    Calls Try.prog 8 #[.agg #[.slice x1 n1 y1, .slice x2 n2 y2], .agg #[.slice z1 m1 u1, .slice z2 m2 u2]] W fun e w' => e = .returned (.bool true) ∧ Below W.heap.size W w' := by
  obtain ⟨D1, d1, a1⟩ := h1
  obtain ⟨D2, d2, a2⟩ := h2
  refine same_all 1 (fun g => D1 g ∨ D2 g) W _ _ _ _ _ _ _ _ _ _ _ _ t (fun g hg => ?_) (a1.mono (fun _ h => Or.inl h)) (a2.mono (fun _ h => Or.inr h))
  rcases hg with hg | hg
  · obtain ⟨_, o, ho, _⟩ := d1 g hg
    exact (Array.getElem?_eq_some_iff.1 ho).1
  · obtain ⟨_, o, ho, _⟩ := d2 g hg
    exact (Array.getElem?_eq_some_iff.1 ho).1
theorem core_kt {l m : List TokG} (h : (l.map TokG.core).map kt = (m.map TokG.core).map kt) : l.length = m.length ∧ ∀ (i : Nat) (h1 : i < l.length) (h2 : i < m.length), l[i].kd = m[i].kd ∧ l[i].tx = m[i].tx := by
  have hl : l.length = m.length := by simpa using congrArg List.length h
  refine ⟨hl, fun i h1 h2 => ?_⟩
  have e := congrArg (fun z => z[i]?) h
  simp [h1, h2, kt, TokG.core] at e
  exact e
set_option maxRecDepth 100000 in
set_option maxHeartbeats 6400000 in
theorem lexBlanks_walk {w : World} (s : ByteArray) (hs : s.size ≤ 9223372036854775807) :
    Calls Try.prog 3 #[.string s] w fun e w' => e = .returned (.bool true) ∧ Below w.heap.size w w' := by
  obtain ⟨ne, hne⟩ := tellsErr_ex
  obtain ⟨na, hna⟩ := tellsArr_ex
  have HNE : Hid (TellsErr ne) := hne
  have HNA : Hid (TellsArr na) := hna
  have HLL : Hid ((allF ne s).1.length ≤ 1025) := allF_len ne s
  have HP : Hid ((allF ne s).2.1 = 0 → (∀ x ∈ (allF ne s).1, x.2.1.size ≤ 2000000) ∧ ∀ J : ByteArray, J.data.toList = blkT ((allF ne s).1.map (fun x => x.2.1)) → J.size ≤ 1024 → (allF ne J).2 = (0, 0) ∧ (allF ne J).1.map kt = (allF ne s).1.map kt) := fun h => ⟨toks_small h, fun J hJ hz => all_blanks h hJ hz⟩
  clear hne hna
  go_enter Try.func3, Try.ntmps3
  go_wp2_with fail
  refine (all_anyA HNE.out HNA.out s hs).mono ?_
  rintro e w1 ⟨v1, base1, toks, rfl, hr1, hc1, ht1, k1⟩
  obtain ⟨a1, c1, rfl⟩ := row_form2 hr1
  have s1 := k1.size
  rw [← hc1] at HLL HP
  have HT1 : Hid (TAs na w.heap.size w1 toks) := ht1
  have HR1 : Hid (w1.ownsRow base1 33 5 (.slice a1 toks.length c1) toks.length (toks.flatMap TokG.cells)) := hr1
  clear hr1 hc1 ht1
  generalize (allF ne s).2.1 = ER at *
  generalize (allF ne s).2.2 = AT at *
  by_cases h0 : ER = 0
  · have h1 : (ER != 0) = false := by rw [h0]; rfl
    have HPP := HP.out h0
    have HZ : Hid (∀ x ∈ toks.map TokG.core, x.2.1.size ≤ 2000000) := HPP.1
    have HJ : Hid (∀ J : ByteArray, J.data.toList = blkT ((toks.map TokG.core).map (fun x => x.2.1)) → J.size ≤ 1024 → (allF ne J).2 = (0, 0) ∧ (allF ne J).1.map kt = (toks.map TokG.core).map kt) := HPP.2
    have hLL : toks.length ≤ 1025 := by have := HLL.out; simpa using this
    clear HPP HP HLL h0
    go_wp2
    go_loopw [6, 7] (fun sv iv wr => ∃ (i : Nat) (S : ByteArray), sv = .string S ∧ iv = .int .i64 i ∧ i ≤ toks.length ∧ S.size ≤ i * 2000001 ∧ Hid (S.data.toList = blkT (((toks.take i).map TokG.core).map (fun x => x.2.1))) ∧ Below w1.heap.size w1 wr) (fun _ iv _ => toks.length - (intOf iv).toNat)
    case atStart => exact ⟨0, ⟨#[]⟩, rfl, rfl, Nat.zero_le _, by decide, rfl, Below.refl _ _⟩
    case round =>
      obtain ⟨i, S, rfl, rfl, hil, hsz, HS, hb⟩ := hrel
      by_cases hlt : i < toks.length
      · obtain ⟨g, rfl, hc1, hc2, hgl⟩ := row_ptr HR1.out (by omega)
        have hcell : ∀ k, k < 5 → ∀ u, (toks[i]).cells[k]? = some u → wr.cell? ⟨g, i * 5 + k, none⟩ = some u := fun k hk u hu => by
          have := HR1.out.cellAt (5 * i + k) (by omega)
          rw [show i * 5 + k = 5 * i + k by omega, hb.cell (p := ⟨g, 5 * i + k, none⟩) hgl, this, flat_get hlt k hk, hu]
        have q1 := hcell 1 (by omega) _ rfl
        have HS2 : Hid (blkT (((toks.take (i + 1)).map TokG.core).map (fun x => x.2.1)) = blkT (((toks.take i).map TokG.core).map (fun x => x.2.1)) ++ (toks[i].tx.data.toList ++ [32])) := by
          unfold Hid
          rw [← List.take_append_getElem hlt, List.map_append, List.map_append]
          exact blkT_snoc _ _
        have hz1 : toks[i].tx.size ≤ 2000000 := HZ.out _ (List.mem_map.2 ⟨_, List.getElem_mem hlt, rfl⟩)
        clear hcell
        generalize toks[i].tx = T at *
        go_wp2
        go_roundw
        case rel =>
          refine ⟨i + 1, S ++ (T ++ ⟨#[32]⟩), rfl, by go_num, by omega, ?_, ?_, hb⟩
          · rw [app_sizeB, app_sizeB, show (⟨#[32]⟩ : ByteArray).size = 1 from rfl]; omega
          · unfold Hid
            rw [app_listB, app_listB, HS.out, HS2.out]
        case measure => simp [intOf]; omega
      · obtain rfl : i = toks.length := by omega
        have HS3 : Hid (S.data.toList = blkT ((toks.map TokG.core).map (fun x => x.2.1))) := by
          have := HS.out
          rw [List.take_length] at this
          exact this
        clear HS
        go_wp2_with fail
        refine (all_anyA HNE.out HNA.out S (by omega)).mono ?_
        rintro e w2 ⟨v2, base2, toks2, rfl, hr2, hc2, ht2, k2⟩
        obtain ⟨a2, c2, rfl⟩ := row_form2 hr2
        have s2 := k2.size
        have sb := hb.size
        have hk : Below w1.heap.size w1 w2 := hb.trans (k2.mono (by omega))
        by_cases hlong : 1024 < S.size
        · have h25 : (allF ne S).2.1 = 25 := all_long hlong
          rw [h25]
          clear hr2 ht2 hc2
          go_wp2_with fail
          refine (live_lex _).mono ?_
          rintro e w3 ⟨rfl, k3⟩
          go_wp2
          go_ret
          exact ⟨rfl, k1.trans ((hk.trans (k3.mono (by have := hk.size; omega))).mono (by omega))⟩
        · obtain ⟨hz, hkt⟩ := HJ.out S HS3.out (by omega)
          rw [hz]
          rw [← hc2] at hkt
          obtain ⟨hlen, hsm⟩ := core_kt hkt
          have HSM : Hid (∀ (i : Nat) (h1 : i < toks2.length) (h2 : i < toks.length), toks2[i].kd = toks[i].kd ∧ toks2[i].tx = toks[i].tx) := hsm
          have HT2 : Hid (TAs na wr.heap.size w2 toks2) := ht2
          have HR2 : Hid (w2.ownsRow base2 33 5 (.slice a2 toks.length c2) toks.length (toks2.flatMap TokG.cells)) := by rw [hlen] at hr2; exact hr2
          have HLE : Hid (toks2.length = toks.length) := hlen
          rw [hlen]
          clear hr2 ht2 hc2 hz hkt hsm HJ hlen
          have h3 : ((toks.length : Int) != (toks.length : Int)) = false := by rw [bne_eq_false_iff_eq]
          simp only [Int.natCast_zero]
          go_wp2
          go_loopw [11] (fun iv wr => ∃ i : Nat, iv = .int .i64 i ∧ i ≤ toks.length ∧ Below w2.heap.size w2 wr) (fun iv _ => toks.length - (intOf iv).toNat)
          case atStart => exact ⟨0, rfl, Nat.zero_le _, Below.refl _ _⟩
          case round =>
            obtain ⟨i, rfl, hil2, hb2⟩ := hrel
            have sb2 := hb2.size
            have hk2 := hk.size
            by_cases hlt : i < toks.length
            · obtain ⟨g1, rfl, hd1, hd2, hg1⟩ := row_ptr HR1.out (by omega)
              obtain ⟨g2, rfl, hd3, hd4, hg2⟩ := row_ptr HR2.out (by omega)
              have hlt2 : i < toks2.length := by rw [HLE.out]; exact hlt
              have hcell : ∀ k, k < 5 → ∀ u, (toks[i]).cells[k]? = some u → wr.cell? ⟨g1, i * 5 + k, none⟩ = some u := fun k hk' u hu => by
                have := HR1.out.cellAt (5 * i + k) (by omega)
                rw [show i * 5 + k = 5 * i + k by omega, hb2.cell (p := ⟨g1, 5 * i + k, none⟩) (show g1 < w2.heap.size by omega), hk.cell (p := ⟨g1, 5 * i + k, none⟩) hg1, this, flat_get hlt k hk', hu]
              have hcell2 : ∀ k, k < 5 → ∀ u, (toks2[i]).cells[k]? = some u → wr.cell? ⟨g2, i * 5 + k, none⟩ = some u := fun k hk' u hu => by
                have := HR2.out.cellAt (5 * i + k) (by omega)
                rw [show i * 5 + k = 5 * i + k by omega, hb2.cell (p := ⟨g2, 5 * i + k, none⟩) hg2, this, flat_get hlt2 k hk', hu]
              obtain ⟨e1, e2⟩ := HSM.out i hlt2 hlt
              have TX := ((HT1.out _ (List.getElem_mem hlt)).below hk).below hb2
              have TY := (HT2.out _ (List.getElem_mem hlt2)).below hb2
              have q0 : wr.cell? ⟨g1, i * 5, none⟩ = some (.int .u8 (toks[i]).kd) := hcell 0 (by omega) _ rfl
              have q1 := hcell 1 (by omega) _ rfl
              have q3 := hcell 3 (by omega) _ rfl
              have q4 := hcell 4 (by omega) _ rfl
              have r0 : wr.cell? ⟨g2, i * 5, none⟩ = some (.int .u8 (toks2[i]).kd) := hcell2 0 (by omega) _ rfl
              have r1 := hcell2 1 (by omega) _ rfl
              have r3 := hcell2 3 (by omega) _ rfl
              have r4 := hcell2 4 (by omega) _ rfl
              rw [e1, e2] at TY
              rw [e1] at r0
              rw [e2] at r1
              clear hcell hcell2 e1 e2
              have HTX : Hid (TA w.heap.size wr toks[i].a1 toks[i].n1 toks[i].c1 toks[i].a2 toks[i].n2 toks[i].c2 (arrF na toks[i].kd toks[i].tx)) := TX
              have HTY : Hid (TA _ wr toks2[i].a1 toks2[i].n1 toks2[i].c1 toks2[i].a2 toks2[i].n2 toks2[i].c2 (arrF na toks[i].kd toks[i].tx)) := TY
              clear TX TY
              generalize toks[i] = X at *
              generalize toks2[i] = Y at *
              obtain ⟨kd, tx, pl, er, xa1, xn1, xc1, xa2, xn2, xc2⟩ := X
              obtain ⟨kdY, txY, plY, erY, ya1, yn1, yc1, ya2, yn2, yc2⟩ := Y
              dsimp only at *
              have f0 : (kd != kd) = false := by simp
              have f1 : (tx.toList == tx.toList) = true := beq_self_eq_true _
              have f2 : (tx.toList != tx.toList) = false := by rw [bne, f1]; rfl
              have hcells : ∀ {w' : World}, Below wr.heap.size wr w' → w'.cell? ⟨g1, i * 5, none⟩ = some (.int .u8 kd) ∧ w'.cell? ⟨g1, i * 5 + 1, none⟩ = some (.string tx) ∧ w'.cell? ⟨g1, i * 5 + 3, none⟩ = some (.slice xa1 xn1 xc1) ∧ w'.cell? ⟨g1, i * 5 + 4, none⟩ = some (.slice xa2 xn2 xc2) ∧ w'.cell? ⟨g2, i * 5, none⟩ = some (.int .u8 kd) ∧ w'.cell? ⟨g2, i * 5 + 1, none⟩ = some (.string tx) ∧ w'.cell? ⟨g2, i * 5 + 3, none⟩ = some (.slice ya1 yn1 yc1) ∧ w'.cell? ⟨g2, i * 5 + 4, none⟩ = some (.slice ya2 yn2 yc2) := fun hb' => ⟨(hb'.cell (p := ⟨g1, i * 5, none⟩) (show g1 < wr.heap.size by omega)).trans q0, (hb'.cell (p := ⟨g1, i * 5 + 1, none⟩) (show g1 < wr.heap.size by omega)).trans q1, (hb'.cell (p := ⟨g1, i * 5 + 3, none⟩) (show g1 < wr.heap.size by omega)).trans q3, (hb'.cell (p := ⟨g1, i * 5 + 4, none⟩) (show g1 < wr.heap.size by omega)).trans q4, (hb'.cell (p := ⟨g2, i * 5, none⟩) (show g2 < wr.heap.size by omega)).trans r0, (hb'.cell (p := ⟨g2, i * 5 + 1, none⟩) (show g2 < wr.heap.size by omega)).trans r1, (hb'.cell (p := ⟨g2, i * 5 + 3, none⟩) (show g2 < wr.heap.size by omega)).trans r3, (hb'.cell (p := ⟨g2, i * 5 + 4, none⟩) (show g2 < wr.heap.size by omega)).trans r4⟩
              have d0 : Below wr.heap.size wr wr.drew := ⟨rfl, rfl, rfl, Nat.le_refl _, fun _ _ => rfl⟩
              have HX2 : Hid (TA w.heap.size wr.drew xa1 xn1 xc1 xa2 xn2 xc2 (arrF na kd tx)) := HTX.out.below d0
              have HY2 : Hid (TA _ wr.drew ya1 yn1 yc1 ya2 yn2 yc2 (arrF na kd tx)) := HTY.out.below d0
              go_wp2
              go_region_held3 (fun w' => w'.cell? ⟨g1, i * 5, none⟩ = some (.int .u8 kd) ∧ w'.cell? ⟨g1, i * 5 + 1, none⟩ = some (.string tx) ∧ w'.cell? ⟨g1, i * 5 + 3, none⟩ = some (.slice xa1 xn1 xc1) ∧ w'.cell? ⟨g1, i * 5 + 4, none⟩ = some (.slice xa2 xn2 xc2) ∧ w'.cell? ⟨g2, i * 5, none⟩ = some (.int .u8 kd) ∧ w'.cell? ⟨g2, i * 5 + 1, none⟩ = some (.string tx) ∧ w'.cell? ⟨g2, i * 5 + 3, none⟩ = some (.slice ya1 yn1 yc1) ∧ w'.cell? ⟨g2, i * 5 + 4, none⟩ = some (.slice ya2 yn2 yc2))
                (first | (go_keep; done) | exact tw)
                (first
                  | (go_at_call 8; refine (same_ta HX2.out HY2.out).mono ?_; rintro e wa ⟨rfl, ka'⟩; have ka : Below wr.heap.size wr wa := d0.trans (ka'.mono d0.size); have tw := hcells ka))
              all_goals
                go_wp2
                go_roundw
                case rel => exact ⟨i + 1, by go_num, by omega, hb2.trans (ka.mono (by omega))⟩
                case measure => simp [intOf]; omega
            · go_wp2_with fail
              refine (live_lex _).mono ?_
              rintro e w3 ⟨rfl, k3⟩
              have s3 := k3.size
              go_wp2
              go_ret
              exact ⟨rfl, k1.trans ((hk.trans ((hb2.trans (k3.mono (by omega))).mono (by omega))).mono (by omega))⟩
  · have h1 : (ER != 0) = true := by rw [bne_iff_ne]; exact h0
    clear HP h0
    go_wp2_with fail
    refine (live_lex _).mono ?_
    rintro e w3 ⟨rfl, k3⟩
    go_wp2
    go_ret
    exact ⟨rfl, k1.trans (k3.mono (by omega))⟩
end Go.Proofs.Ytkhmbceadeejpaa
