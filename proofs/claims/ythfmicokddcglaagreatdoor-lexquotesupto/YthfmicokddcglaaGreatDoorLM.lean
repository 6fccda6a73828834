/- A text in quotes, its quotes doubled: it is one token, which says the text; where the text's bytes are none, neither are those of what is quoted. -/
import Derived.Test.YthfmicokddcglaaGreatDoorLC
import Derived.Test.YthfmicokddcglaaGreatDoorLA
import Derived.Test.YthfmicokddcglaaGreatDoorLG
import Derived.Lib.MapLaws
namespace Go.Proofs.YthfmicokddcglaaGreatDoor
set_option linter.unusedVariables false
set_option linter.unusedSimpArgs false
open Go.RowKit

theorem enc_rune (c : Int) (hc : okRune c) : (Utf8.encode c).data.toList = Lib.encodeRune c := by
  rw [enc_list c hc]
  obtain ⟨n, rfl⟩ : ∃ n : Nat, c = (n : Int) := ⟨c.toNat, by unfold okRune at hc; omega⟩
  unfold okRune at hc
  rw [Int.toNat_natCast]
  unfold Lib.encodeRune
  by_cases h1 : n < 128
  · rw [if_pos h1, Lib.encodeRuneZ_one (by omega) (by omega)]; rfl
  rw [if_neg h1]
  by_cases h2 : n < 2048
  · rw [if_pos h2, Lib.encodeRuneZ_two (by omega) (by omega)]; rfl
  rw [if_neg h2]
  by_cases h3 : n < 65536
  · rw [if_pos h3, Lib.encodeRuneZ_three (by omega)]; rfl
  rw [if_neg h3, Lib.encodeRuneZ_four (by omega) (by omega)]
  rfl
theorem dec_okRune (l : List UInt8) (hne : l ≠ []) (hv : ¬ ((Lib.decodeL l).1 = 65533 ∧ (Lib.decodeL l).2 = 1)) : okRune ((Lib.decodeL l).1 : Int) := by
  have h1 : 0 < ByteArray.size ⟨l.toArray⟩ := by
    show 0 < l.toArray.size
    rw [List.size_toArray]; exact List.length_pos_iff.2 hne
  unfold Lib.decodeL at hv ⊢
  exact scanR_ok ⟨l.toArray⟩ 1 0 [] (fun c h => by cases h) _ (by rw [scanR, if_pos h1, if_neg hv, scanR]; simp)
theorem enc_take (l : List UInt8) (hne : l ≠ []) (hv : ¬ ((Lib.decodeL l).1 = 65533 ∧ (Lib.decodeL l).2 = 1)) : l = (Utf8.encode ((Lib.decodeL l).1 : Int)).data.toList ++ l.drop (Lib.decodeL l).2 := by
  rw [enc_rune _ (dec_okRune l hne hv), Lib.encode_decode l hne hv, List.take_append_drop]
/-- Each quote twice, of characters. -/
def dblI (l : List Int) : List Int := l.flatMap (fun c => if c = 39 then [39, 39] else [c])
theorem dblI_cons (c : Int) (l : List Int) : dblI (c :: l) = (if c = 39 then [39, 39] else [c]) ++ dblI l := by
  unfold dblI; rw [List.flatMap_cons]
theorem dblI_ok {l : List Int} (h : ∀ c ∈ l, okRune c) : ∀ c ∈ dblI l, okRune c := fun c hc => by
  unfold dblI at hc
  obtain ⟨d, hd, hc⟩ := List.mem_flatMap.1 hc
  by_cases h39 : d = 39
  · rw [if_pos h39] at hc
    have : c = 39 := by simpa using hc
    rw [this, ← h39]; exact h d hd
  · rw [if_neg h39] at hc
    rw [List.mem_singleton.1 hc]; exact h d hd
theorem enc39 : (Utf8.encode 39).data.toList = [39] := by decide +kernel
theorem dbl_big {l : List UInt8} (h : ∀ b ∈ l, 128 ≤ b.toNat) : dbl l = l := dbl_none (List.count_eq_zero.2 fun hm => by have := h _ hm; revert this; decide)
theorem dbl_enc (c : Int) (hc : okRune c) : dbl (Utf8.encode c).data.toList = if c = 39 then [39, 39] else (Utf8.encode c).data.toList := by
  by_cases h : c = 39
  · rw [if_pos h, h, enc39]; rfl
  rw [if_neg h]
  have hr := okRune_le hc
  have hn : ¬ c.toNat = 39 := fun e => h (by unfold okRune at hc; omega)
  rw [enc_list c hc]
  generalize c.toNat = n at *
  by_cases h1 : n < 128
  · rw [if_pos h1]
    have : ¬ UInt8.ofNat n = 39 := fun e => hn (by have := congrArg UInt8.toNat e; rw [nat_byte n (by omega)] at this; simpa using this)
    unfold dbl
    rw [List.flatMap_cons, if_neg this]; rfl
  rw [if_neg h1]
  apply dbl_big
  intro b hb
  by_cases h2 : n < 2048
  · rw [if_pos h2] at hb
    rcases List.mem_cons.1 hb with rfl | hb
    · rw [nat_byte _ (by omega)]; omega
    rw [List.mem_singleton.1 hb, nat_byte _ (by omega)]; omega
  rw [if_neg h2] at hb
  by_cases h3 : n < 65536
  · rw [if_pos h3] at hb
    rcases List.mem_cons.1 hb with rfl | hb
    · rw [nat_byte _ (by omega)]; omega
    rcases List.mem_cons.1 hb with rfl | hb
    · rw [nat_byte _ (by omega)]; omega
    rw [List.mem_singleton.1 hb, nat_byte _ (by omega)]; omega
  rw [if_neg h3] at hb
  rcases List.mem_cons.1 hb with rfl | hb
  · rw [nat_byte _ (by omega)]; omega
  rcases List.mem_cons.1 hb with rfl | hb
  · rw [nat_byte _ (by omega)]; omega
  rcases List.mem_cons.1 hb with rfl | hb
  · rw [nat_byte _ (by omega)]; omega
  rw [List.mem_singleton.1 hb, nat_byte _ (by omega)]; omega
theorem runesB_app (a b : List Int) : (runesBytes (a ++ b)).data.toList = (runesBytes a).data.toList ++ (runesBytes b).data.toList := by
  induction a with
  | nil => rw [runesBytes_nil]; rfl
  | cons c a ih => rw [List.cons_append, runesBytes_cons, runesBytes_cons, ih, List.append_assoc]
theorem dbl_runes {l : List Int} (h : ∀ c ∈ l, okRune c) : dbl (runesBytes l).data.toList = (runesBytes (dblI l)).data.toList := by
  induction l with
  | nil => rw [runesBytes_nil]; rfl
  | cons c l ih =>
    rw [runesBytes_cons, dbl_app, dbl_enc c (h c (by simp)), ih (fun d hd => h d (by simp [hd])), dblI_cons, runesB_app]
    by_cases h39 : c = 39
    · rw [if_pos h39, if_pos h39, runesBytes_cons, runesBytes_cons, runesBytes_nil, enc39]; rfl
    · rw [if_neg h39, if_neg h39, runesBytes_cons, runesBytes_nil, List.append_nil]
/-- What the scan of a text tells: the text is its characters' bytes; or these, and then bytes that are none. -/
theorem scan_is (s : ByteArray) : ∀ (f pos : Nat) (acc : List Int), s.size ≤ pos + f → pos ≤ s.size →
    ((scanR s f pos acc).2.1 = 0 → ∃ l, (scanR s f pos acc).1 = acc ++ l ∧ (∀ c ∈ l, okRune c) ∧ s.data.toList.drop pos = (runesBytes l).data.toList) ∧
    (¬ (scanR s f pos acc).2.1 = 0 → ∃ l r, (∀ c ∈ l, okRune c) ∧ s.data.toList.drop pos = (runesBytes l).data.toList ++ r ∧ r ≠ [] ∧ Lib.decodeL r = (65533, 1))
  | 0, pos, acc, hf, hp => by
    have hsz : s.data.toList.length = s.size := by simp
    refine ⟨fun _ => ⟨[], by rw [scanR, List.append_nil], (fun c h => by cases h), ?_⟩, fun h => absurd (by rw [scanR]) h⟩
    rw [List.drop_eq_nil_of_le (by omega), runesBytes_nil]
  | f + 1, pos, acc, hf, hp => by
    have hsz : s.data.toList.length = s.size := by simp
    rw [scanR]
    by_cases h1 : pos < s.size
    · rw [if_pos h1]
      have hne := drop_ne h1
      have hle := Lib.decodeL_le _ hne
      have hw := Lib.decodeL_width (s.data.toList.drop pos)
      rw [List.length_drop, hsz] at hle
      by_cases h2 : (Utf8.decode s pos).1 = 65533 ∧ (Utf8.decode s pos).2 = 1
      · rw [if_pos h2]
        refine ⟨fun h => by simp at h, fun _ => ⟨[], s.data.toList.drop pos, (fun c h => by cases h), by rw [runesBytes_nil]; rfl, hne, ?_⟩⟩
        rw [Lib.decodeL_drop]
        exact Prod.ext h2.1 h2.2
      rw [if_neg h2]
      rw [← Lib.decodeL_drop] at h2 ⊢
      have hok := dec_okRune _ hne h2
      have htk := enc_take _ hne h2
      rw [List.drop_drop] at htk
      obtain ⟨i1, i2⟩ := scan_is s f (pos + (Lib.decodeL (s.data.toList.drop pos)).2) (acc ++ [((Lib.decodeL (s.data.toList.drop pos)).1 : Int)]) (by omega) (by omega)
      constructor
      · intro h
        obtain ⟨l, a1, a2, a3⟩ := i1 h
        refine ⟨((Lib.decodeL (s.data.toList.drop pos)).1 : Int) :: l, by rw [a1, List.append_assoc]; rfl, fun c hc => ?_, ?_⟩
        · rcases List.mem_cons.1 hc with rfl | hc
          · exact hok
          · exact a2 c hc
        · rw [runesBytes_cons, ← a3]; exact htk
      · intro h
        obtain ⟨l, r, a2, a3, a4, a5⟩ := i2 h
        refine ⟨((Lib.decodeL (s.data.toList.drop pos)).1 : Int) :: l, r, fun c hc => ?_, ?_, a4, a5⟩
        · rcases List.mem_cons.1 hc with rfl | hc
          · exact hok
          · exact a2 c hc
        · rw [runesBytes_cons, List.append_assoc, ← a3]; exact htk
    · rw [if_neg h1]
      refine ⟨fun _ => ⟨[], by rw [List.append_nil], (fun c h => by cases h), ?_⟩, fun h => absurd rfl h⟩
      rw [List.drop_eq_nil_of_le (by omega), runesBytes_nil]
/-- Bytes that are none, behind characters: the scan tells it. -/
theorem scan_bad (s : ByteArray) : ∀ (l : List Int) (pre r : List UInt8) (acc : List Int) (f : Nat), (∀ c ∈ l, okRune c) → s.data.toList = pre ++ ((runesBytes l).data.toList ++ r) → r ≠ [] → Lib.decodeL r = (65533, 1) → s.size ≤ pre.length + f → (scanR s f pre.length acc).2.1 = 26
  | [], pre, r, acc, f, _, hs, hr, hd, hf => by
    have hsz : s.data.toList.length = s.size := by simp
    rw [runesBytes_nil, List.nil_append] at hs
    have hl := congrArg List.length hs
    rw [List.length_append, hsz] at hl
    have hr1 : 0 < r.length := List.length_pos_iff.2 hr
    obtain ⟨f, rfl⟩ : ∃ g, f = g + 1 := ⟨f - 1, by omega⟩
    have hdd : Utf8.decode s pre.length = (65533, 1) := by
      rw [← Lib.decodeL_drop, hs, List.drop_left]; exact hd
    rw [scanR, if_pos (by omega), hdd, if_pos ⟨rfl, rfl⟩]
  | c :: l, pre, r, acc, f, hok, hs, hr, hd, hf => by
    have hc := hok c (by simp)
    have hlen := enc_len c hc
    have hsz : s.data.toList.length = s.size := by simp
    rw [runesBytes_cons, List.append_assoc] at hs
    have hl := congrArg List.length hs
    rw [List.length_append, List.length_append, hsz] at hl
    have hd0 : Utf8.decode s pre.length = (c.toNat, (Utf8.encode c).data.toList.length) := by
      rw [← Lib.decodeL_drop, hs, List.drop_left]
      exact enc_dec c hc _
    obtain ⟨f, rfl⟩ : ∃ g, f = g + 1 := ⟨f - 1, by omega⟩
    rw [scanR, if_pos (by omega), hd0]
    simp only
    rw [if_neg (fun h => by have := hlen.2.2 h.1; omega)]
    have e : pre.length + (Utf8.encode c).data.toList.length = (pre ++ (Utf8.encode c).data.toList).length := by simp
    rw [e]
    exact scan_bad s l (pre ++ (Utf8.encode c).data.toList) r _ f (fun d hd => hok d (by simp [hd])) (by rw [hs, List.append_assoc]) hr hd (by rw [List.length_append]; omega)
set_option maxRecDepth 100000 in
set_option maxHeartbeats 8000000 in
theorem decN_bad {n m b0 b1 b2 b3 c1 c2 c3 : Nat} (h : Lib.decodeN n b0 b1 b2 b3 = (65533, 1)) (h0 : b0 < 256)
    (g1 : (1 < n ∧ c1 = b1) ∨ c1 / 64 ≠ 2) (g2 : (2 < n ∧ c1 = b1 ∧ c2 = b2) ∨ c1 / 64 ≠ 2 ∨ c2 / 64 ≠ 2) (g3 : (3 < n ∧ c1 = b1 ∧ c2 = b2 ∧ c3 = b3) ∨ c1 / 64 ≠ 2 ∨ c2 / 64 ≠ 2 ∨ c3 / 64 ≠ 2) : Lib.decodeN m b0 c1 c2 c3 = (65533, 1) := by
  unfold Lib.decodeN at h
  by_cases k0 : b0 < 128
  · rw [if_pos k0] at h
    have := congrArg Prod.fst h
    simp only at this
    omega
  rw [if_neg k0] at h
  unfold Lib.decodeN
  rw [if_neg k0]
  by_cases k1 : b0 / 32 = 6 ∧ (1 < m ∧ c1 / 64 = 2)
  · rw [if_pos k1]
    rcases g1 with ⟨e1, rfl⟩ | g1
    · rw [if_pos ⟨k1.1, e1, k1.2.2⟩] at h; exact h
    · exact absurd k1.2.2 g1
  rw [if_neg k1]
  by_cases k2 : b0 / 16 = 14 ∧ (1 < m ∧ c1 / 64 = 2) ∧ (2 < m ∧ c2 / 64 = 2)
  · rw [if_pos k2]
    rcases g2 with ⟨e1, rfl, rfl⟩ | g2 | g2
    · rw [if_neg (by omega), if_pos ⟨k2.1, ⟨by omega, k2.2.1.2⟩, e1, k2.2.2.2⟩] at h; exact h
    · exact absurd k2.2.1.2 g2
    · exact absurd k2.2.2.2 g2
  rw [if_neg k2]
  by_cases k3 : b0 / 8 = 30 ∧ (1 < m ∧ c1 / 64 = 2) ∧ (2 < m ∧ c2 / 64 = 2) ∧ (3 < m ∧ c3 / 64 = 2)
  · rw [if_pos k3]
    rcases g3 with ⟨e1, rfl, rfl, rfl⟩ | g3 | g3 | g3
    · rw [if_neg (by omega), if_neg (by omega), if_pos ⟨k3.1, ⟨by omega, k3.2.1.2⟩, ⟨by omega, k3.2.2.1.2⟩, e1, k3.2.2.2.2⟩] at h; exact h
    · exact absurd k3.2.1.2 g3
    · exact absurd k3.2.2.1.2 g3
    · exact absurd k3.2.2.2.2 g3
  rw [if_neg k3]
theorem dbl_cons (b : UInt8) (l : List UInt8) : dbl (b :: l) = (if b = 39 then [39, 39] else [b]) ++ dbl l := by
  unfold dbl; rw [List.flatMap_cons]
/-- Its first byte. -/
theorem dbl_head (l : List UInt8) : (∃ b t, l = b :: t ∧ ¬ b = 39 ∧ dbl l ++ [39] = b :: (dbl t ++ [39])) ∨ ∃ t, dbl l ++ [39] = 39 :: t := by
  cases l with
  | nil => exact Or.inr ⟨[], rfl⟩
  | cons b t =>
    by_cases h : b = 39
    · exact Or.inr ⟨39 :: (dbl t ++ [39]), by rw [dbl_cons, if_pos h]; rfl⟩
    · exact Or.inl ⟨b, t, rfl, h, by rw [dbl_cons, if_neg h]; rfl⟩
theorem dbl_bad {r : List UInt8} (hr : r ≠ []) (h : Lib.decodeL r = (65533, 1)) : Lib.decodeL (dbl r ++ [39]) = (65533, 1) := by
  rw [Lib.decodeL_N] at h
  obtain ⟨b0, t, rfl⟩ : ∃ b t, r = b :: t := by cases r with | nil => exact absurd rfl hr | cons b t => exact ⟨b, t, rfl⟩
  have h39 : ((39 : UInt8).toNat) / 64 ≠ 2 := by decide
  rcases dbl_head (b0 :: t) with ⟨b, t', e, hb, hd⟩ | ⟨t', hd⟩
  · obtain ⟨rfl, rfl⟩ : b0 = b ∧ t = t' := by simpa using e
    rw [hd, Lib.decodeL_N]
    simp only [List.getD_cons_zero, List.getD_cons_succ, List.length_cons] at h ⊢
    rcases dbl_head t with ⟨b1, t1, rfl, hb1, hd1⟩ | ⟨t1, hd1⟩
    · rw [hd1]
      simp only [List.getD_cons_zero, List.getD_cons_succ, List.length_cons] at h ⊢
      rcases dbl_head t1 with ⟨b2, t2, rfl, hb2, hd2⟩ | ⟨t2, hd2⟩
      · rw [hd2]
        simp only [List.getD_cons_zero, List.getD_cons_succ, List.length_cons] at h ⊢
        rcases dbl_head t2 with ⟨b3, t3, rfl, hb3, hd3⟩ | ⟨t3, hd3⟩
        · rw [hd3]
          simp only [List.getD_cons_zero, List.getD_cons_succ, List.length_cons] at h ⊢
          exact decN_bad h b0.toNat_lt (Or.inl ⟨by omega, rfl⟩) (Or.inl ⟨by omega, rfl, rfl⟩) (Or.inl ⟨by omega, rfl, rfl, rfl⟩)
        · rw [hd3]
          simp only [List.getD_cons_zero, List.length_cons]
          exact decN_bad h b0.toNat_lt (Or.inl ⟨by omega, rfl⟩) (Or.inl ⟨by omega, rfl, rfl⟩) (Or.inr (Or.inr (Or.inr h39)))
      · rw [hd2]
        simp only [List.getD_cons_zero, List.length_cons]
        exact decN_bad h b0.toNat_lt (Or.inl ⟨by omega, rfl⟩) (Or.inr (Or.inr h39)) (Or.inr (Or.inr (Or.inl h39)))
    · rw [hd1]
      simp only [List.getD_cons_zero, List.length_cons]
      exact decN_bad h b0.toNat_lt (Or.inr h39) (Or.inr (Or.inl h39)) (Or.inr (Or.inl h39))
  · exfalso
    rw [dbl_cons] at hd
    have hb : b0 = 39 := by
      by_cases hb : b0 = 39
      · exact hb
      · rw [if_neg hb] at hd; simpa using (List.cons.inj hd).1
    rw [hb] at h
    simp only [List.getD_cons_zero] at h
    unfold Lib.decodeN at h
    rw [if_pos (by decide)] at h
    revert h
    decide
/-- The characters of a text in quotes. -/
def qL (cs : List Int) : List Int := 39 :: (dblI cs ++ [39])
theorem qL_ok {cs : List Int} (h : ∀ c ∈ cs, okRune c) : ∀ c ∈ qL cs, okRune c := fun c hc => by
  have h39 : okRune 39 := by unfold okRune; omega
  rcases List.mem_cons.1 hc with rfl | hc
  · exact h39
  rcases List.mem_append.1 hc with hc | hc
  · exact dblI_ok h c hc
  · rw [List.mem_singleton.1 hc]; exact h39
theorem quoted_is {s : ByteArray} {cs : List Int} (h : ∀ c ∈ cs, okRune c) (hs : s.data.toList = (runesBytes cs).data.toList) : quoted s = runesBytes (qL cs) := by
  refine ByteArray.ext (Array.toList_inj.1 ?_)
  rw [show (quoted s).data.toList = 39 :: (dbl s.data.toList ++ [39]) from rfl, hs, dbl_runes h]
  unfold qL
  rw [runesBytes_cons, enc39, runesB_app, runesBytes_cons, runesBytes_nil, enc39]
  rfl
/-- The scan of what is quoted, where the text is right. -/
theorem quoted_scan {s : ByteArray} (h : (scanR s s.size 0 []).2.1 = 0) : quoted s = runesBytes (qL (scanR s s.size 0 []).1) ∧ (∀ c ∈ (scanR s s.size 0 []).1, okRune c) ∧ scanR (quoted s) (quoted s).size 0 [] = (qL (scanR s s.size 0 []).1, 0, 0) := by
  obtain ⟨l, h1, h2, h3⟩ := (scan_is s s.size 0 [] (by omega) (by omega)).1 h
  rw [List.nil_append] at h1
  rw [List.drop_zero] at h3
  rw [h1]
  have hq := quoted_is h2 h3
  refine ⟨hq, h2, ?_⟩
  rw [hq]
  exact scan_back _ (qL_ok h2)
/-- And where it is not. -/
theorem quoted_bad {s : ByteArray} (h : ¬ (scanR s s.size 0 []).2.1 = 0) : (scanR (quoted s) (quoted s).size 0 []).2.1 = 26 := by
  obtain ⟨l, r, h2, h3, h4, h5⟩ := (scan_is s s.size 0 [] (by omega) (by omega)).2 h
  rw [List.drop_zero] at h3
  have h39 : okRune 39 := by unfold okRune; omega
  refine scan_bad (quoted s) (39 :: dblI l) [] (dbl r ++ [39]) [] _ (fun c hc => ?_) ?_ (by simp) (dbl_bad h4 h5) (by simp)
  · rcases List.mem_cons.1 hc with rfl | hc
    · exact h39
    · exact dblI_ok h2 c hc
  · rw [show (quoted s).data.toList = 39 :: (dbl s.data.toList ++ [39]) from rfl, h3, dbl_app, dbl_runes h2, runesBytes_cons, enc39]
    simp
theorem getD_drop {L : List Int} {i : Nat} {c : Int} {t : List Int} (h : L.drop i = c :: t) : i < L.length ∧ L.getD i 0 = c ∧ L.drop (i + 1) = t := by
  have hi : i < L.length := by
    rcases Nat.lt_or_ge i L.length with hi | hi
    · exact hi
    · rw [List.drop_eq_nil_of_le hi] at h; cases h
  rw [List.drop_eq_getElem_cons hi] at h
  obtain ⟨h1, h2⟩ := List.cons.inj h
  exact ⟨hi, by rw [← h1]; simp [List.getD, hi], h2⟩
/-- What is meant by the doubled quotes. -/
theorem qscan_dbl (L : List Int) : ∀ (cs : List Int) (f i : Nat) (acc : List Int), L.drop i = dblI cs ++ [39] → cs.length < f → qscan L f i acc = some (acc ++ cs, L.length)
  | [], f, i, acc, h, hf => by
    obtain ⟨f, rfl⟩ : ∃ g, f = g + 1 := ⟨f - 1, by simp at hf; omega⟩
    obtain ⟨h1, h2, h3⟩ := getD_drop (show L.drop i = 39 :: [] from h)
    have h4 := congrArg List.length h3
    rw [List.length_drop] at h4
    simp only [List.length_nil] at h4
    rw [qscan, if_pos h1, if_pos h2, if_pos (Or.inl (by omega)), List.append_nil]
    rw [show i + 1 = L.length by omega]
  | c :: cs, f, i, acc, h, hf => by
    obtain ⟨f, rfl⟩ : ∃ g, f = g + 1 := ⟨f - 1, by simp at hf; omega⟩
    simp only [List.length_cons] at hf
    rw [dblI_cons] at h
    by_cases h39 : c = 39
    · rw [if_pos h39] at h
      obtain ⟨h1, h2, h3⟩ := getD_drop (show L.drop i = 39 :: 39 :: (dblI cs ++ [39]) from h)
      obtain ⟨g1, g2, g3⟩ := getD_drop h3
      rw [qscan, if_pos h1, if_pos h2, if_neg (by omega), qscan_dbl L cs f (i + 2) (acc ++ [39]) g3 (by omega), h39]
      simp
    · rw [if_neg h39] at h
      obtain ⟨h1, h2, h3⟩ := getD_drop (show L.drop i = c :: (dblI cs ++ [39]) from h)
      rw [qscan, if_pos h1, if_neg (by omega), h2, qscan_dbl L cs f (i + 1) (acc ++ [c]) h3 (by omega)]
      simp
theorem dblI_len (cs : List Int) : cs.length ≤ (dblI cs).length := by
  induction cs with
  | nil => exact Nat.zero_le _
  | cons c cs ih =>
    rw [dblI_cons, List.length_append, List.length_cons]
    by_cases h : c = 39
    · rw [if_pos h]; simp only [List.length_cons, List.length_nil]; omega
    · rw [if_neg h]; simp only [List.length_cons, List.length_nil]; omega
theorem qL_qscan (cs : List Int) : qscan (qL cs) (qL cs).length 1 [] = some (cs, (qL cs).length) := by
  have := qscan_dbl (qL cs) cs (qL cs).length 1 [] rfl (by have := dblI_len cs; unfold qL; simp only [List.length_cons, List.length_append, List.length_nil]; omega)
  simpa using this
theorem qL_next (ne : ByteArray → Int) (cs : List Int) : nextF ne (qL cs) 0 = (2, (qL cs).length, 0) := by
  have h0 : (qL cs).getD 0 0 = 39 := rfl
  unfold nextF
  rw [h0, if_neg (by decide), if_pos rfl, show (0 : Nat) + 1 = 1 from rfl, qL_qscan]
theorem qL_items (ne : ByteArray → Int) (cs : List Int) : items ne (qL cs) = [(2, runesBytes (qL cs), 0, 0), (0, ⟨#[]⟩, (qL cs).length, 0)] := by
  have hp0 : passTo (qL cs) 0 = 0 := by
    have e : runEnd bl (qL cs) 0 = 0 := runEnd_is (Nat.le_refl _) (Nat.zero_le _) (fun k h1 h2 => by omega) (Or.inr rfl)
    unfold passTo
    rw [e, if_neg (fun h => by have := h.2; revert this; rw [show (qL cs).getD 0 0 = 39 from rfl]; decide)]
  have hpe : passTo (qL cs) (qL cs).length = (qL cs).length := by
    have e : runEnd bl (qL cs) (qL cs).length = (qL cs).length := runEnd_is (Nat.le_refl _) (Nat.le_refl _) (fun k h1 h2 => by omega) (Or.inl rfl)
    unfold passTo
    rw [e, if_neg (by omega)]
  have hl : 0 < (qL cs).length := by unfold qL; simp
  unfold items
  rw [hp0, itemsF, if_pos hl, qL_next, if_pos rfl]
  simp only
  rw [hpe]
  obtain ⟨n, hn⟩ : ∃ n, (qL cs).length = n + 1 := ⟨(qL cs).length - 1, by omega⟩
  have he : itemsF ne (qL cs) (qL cs).length (qL cs).length = [(0, ⟨#[]⟩, (qL cs).length, 0)] := by
    conv => lhs; arg 3; rw [hn]
    rw [itemsF, if_neg (by omega)]
  rw [he]
  unfold cutText
  rw [List.drop_zero, Nat.sub_zero, List.take_length]
/-- lex.All of a text in quotes. -/
theorem allF_quoted (ne : ByteArray → Int) {s : ByteArray} (h : (scanR s s.size 0 []).2.1 = 0) (hs : (quoted s).size ≤ 1024) : allF ne (quoted s) = ([(2, quoted s, 0, 0), (0, ⟨#[]⟩, (qL (scanR s s.size 0 []).1).length, 0)], 0, 0) := by
  obtain ⟨h1, h2, h3⟩ := quoted_scan h
  unfold allF
  rw [if_neg (by omega), h3]
  simp only
  have hz : (lastEr [(2, runesBytes (qL (scanR s s.size 0 []).1), 0, 0), (0, ⟨#[]⟩, (qL (scanR s s.size 0 []).1).length, 0)]).1 = 0 := rfl
  rw [if_neg (by simp), qL_items, if_pos hz, ← h1]
theorem allF_long (ne : ByteArray → Int) {s : ByteArray} (hs : 1024 < (quoted s).size) : allF ne (quoted s) = ([], 25, 0) := by
  unfold allF
  rw [if_pos hs]
theorem allF_bad (ne : ByteArray → Int) {s : ByteArray} (h : ¬ (scanR s s.size 0 []).2.1 = 0) : ¬ (allF ne (quoted s)).2.1 = 0 := by
  have hb := quoted_bad h
  unfold allF
  by_cases hs : 1024 < (quoted s).size
  · rw [if_pos hs]; simp
  · rw [if_neg hs, if_pos (by omega)]
    simp only
    omega
end Go.Proofs.YthfmicokddcglaaGreatDoor
