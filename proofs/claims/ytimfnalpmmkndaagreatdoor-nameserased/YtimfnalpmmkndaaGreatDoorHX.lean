/- A row of names and signs written anew is read as the same row: the mathematics. -/
import Derived.Test.YtimfnalpmmkndaaGreatDoorDA
import Derived.Test.YtimfnalpmmkndaaGreatDoorLX
import Derived.Test.YtimfnalpmmkndaaGreatDoorDC
import Derived.Test.YtimfnalpmmkndaaGreatDoorNF
namespace Go.Proofs.YtimfnalpmmkndaaGreatDoor
set_option linter.unusedVariables false
set_option linter.unusedSimpArgs false
open Go.RowKit

def nb (l : List Int) : Nat := (runesBytes l).data.toList.length
theorem next_three {ne : ByteArray → Int} {cs : List Int} {i : Nat} (h : (nextF ne cs i).1 = 3) : bn (cs.getD i 0) = true ∧ runEnd inm cs i - i ≤ 32 ∧ (nextF ne cs i) = (3, runEnd inm cs i, 0) := by
 unfold nextF at h ⊢
 by_cases h1 : cs.getD i 0 = 175 ∨ dg (cs.getD i 0) = true
 · rw [if_pos h1] at h; simp at h
 rw [if_neg h1] at h ⊢
 by_cases h2 : cs.getD i 0 = 39
 · rw [if_pos h2] at h
   split at h <;> simp at h
 rw [if_neg h2] at h ⊢
 by_cases h3 : bn (cs.getD i 0) = true
 · rw [if_pos h3] at h ⊢
   by_cases h4 : runEnd inm cs i - i ≤ 32
   · rw [if_pos h4]
     exact ⟨h3, h4, rfl⟩
   · rw [if_neg h4] at h; simp at h
 rw [if_neg h3] at h
 by_cases h5 : cs.getD i 0 = 9109
 · rw [if_pos h5] at h; simp at h
 rw [if_neg h5] at h
 by_cases h6 : cs.getD i 0 ∈ decs prims prims.size 0
 · rw [if_pos h6] at h; simp at h
 rw [if_neg h6] at h
 by_cases h7 : cs.getD i 0 ∈ decs sgns sgns.size 0
 · rw [if_pos h7] at h; simp at h
 rw [if_neg h7] at h; simp at h
theorem bn_no {c : Int} (h : bn c = true) : ¬ (c = 175 ∨ dg c = true) ∧ ¬ c = 39 ∧ bl c = false ∧ ¬ c = 9053 := by
 simp [bn, lt, dg, bl] at h ⊢
 omega
theorem next_name (ne : ByteArray → Int) (cs : List Int) (i : Nat) (h : bn (cs.getD i 0) = true) (h2 : runEnd inm cs i - i ≤ 32) : nextF ne cs i = (3, runEnd inm cs i, 0) := by
 obtain ⟨a, b, _⟩ := bn_no h
 unfold nextF
 rw [if_neg a, if_neg b, if_pos h, if_pos h2]
theorem next_arw (ne : ByteArray → Int) (cs : List Int) (i : Nat) (h : cs.getD i 0 = 8592) : nextF ne cs i = (6, i + 1, 0) := by
 unfold nextF
 rw [h, if_neg (by decide), if_neg (by decide), if_neg (by decide), if_neg (by decide), if_neg (by decide +kernel), if_pos (by decide +kernel)]
theorem next_sem (ne : ByteArray → Int) (cs : List Int) (i : Nat) (h : cs.getD i 0 = 59) : nextF ne cs i = (6, i + 1, 0) := by
 unfold nextF
 rw [h, if_neg (by decide), if_neg (by decide), if_neg (by decide), if_neg (by decide), if_neg (by decide +kernel), if_pos (by decide +kernel)]
theorem arw_scan : (scanR arwT arwT.size 0 []).1 = [8592] := by decide +kernel
theorem sem_scan : (scanR semT semT.size 0 []).1 = [59] := by decide +kernel
theorem cut_ok {cs : List Int} (hok : ∀ c ∈ cs, okRune c) {i j : Nat} : ∀ c ∈ (cs.drop i).take (j - i), okRune c := fun c hc => hok c (List.mem_of_mem_drop (List.mem_of_mem_take hc))
theorem cut_first {cs : List Int} {i j : Nat} {c : Int} (h : (cs.drop i).take (j - i) = [c]) : cs.getD i 0 = c := by
 cases hd : cs.drop i with
 | nil => rw [hd] at h; simp at h
 | cons a l =>
  rw [hd] at h
  have hi : i < cs.length := by
   have := congrArg List.length hd
   rw [List.length_drop, List.length_cons] at this
   omega
  rw [List.drop_eq_getElem_cons hi] at hd
  cases hn : j - i with
  | zero => rw [hn] at h; simp at h
  | succ n =>
   rw [hn, List.take_succ_cons] at h
   have e1 := (List.cons.inj h).1
   have e2 := (List.cons.inj hd).1
   rw [← e1, ← e2]
   simp [List.getD, hi]
theorem cut_arw {ne : ByteArray → Int} {cs : List Int} (hok : ∀ c ∈ cs, okRune c) {i j : Nat} (h : cutText cs i j = arwT) : (nextF ne cs i).1 = 6 ∧ (cs.drop i).take (j - i) = [8592] := by
 have hs := scan_back _ (cut_ok hok (i := i) (j := j))
 unfold cutText at h
 rw [h] at hs
 have e : (cs.drop i).take (j - i) = [8592] := by rw [← arw_scan, hs]
 exact ⟨by rw [next_arw ne cs i (cut_first e)], e⟩
theorem cut_sem {ne : ByteArray → Int} {cs : List Int} (hok : ∀ c ∈ cs, okRune c) {i j : Nat} (h : cutText cs i j = semT) : (nextF ne cs i).1 = 6 ∧ (cs.drop i).take (j - i) = [59] := by
 have hs := scan_back _ (cut_ok hok (i := i) (j := j))
 unfold cutText at h
 rw [h] at hs
 have e : (cs.drop i).take (j - i) = [59] := by rw [← sem_scan, hs]
 exact ⟨by rw [next_sem ne cs i (cut_first e)], e⟩
structure RowT (T : List Tk) : Prop where
 ends : ∃ l p, T = l ++ [(0, ⟨#[]⟩, p, 0)] ∧ ∀ x ∈ l, ¬ x.1 = 0
 arw : ∀ x ∈ T, x.2.1 = arwT → x.1 = 6
 sem : ∀ x ∈ T, x.2.1 = semT → x.1 = 6
theorem rowT_of {ne : ByteArray → Int} {cs : List Int} (hok : ∀ c ∈ cs, okRune c) : ∀ f i, i ≤ cs.length → cs.length < i + f → (∀ x ∈ itemsF ne cs f i, x.2.2.2 = 0) → RowT (itemsF ne cs f i)
 | 0, i, h1, h2, _ => by omega
 | f + 1, i, h1, h2, he => by
  rw [itemsF] at he ⊢
  by_cases hi : i < cs.length
  · rw [if_pos hi] at he ⊢
    by_cases h0 : (nextF ne cs i).2.2 = 0
    · rw [if_pos h0] at he ⊢
      have hn := nextF_end ne cs i hi h0
      have hp := passTo_le (cs := cs) (i := (nextF ne cs i).2.1) hn.2
      obtain ⟨⟨l, p, e, hl⟩, ha, hs⟩ := rowT_of hok f _ hp.2 (by omega) (fun x hx => he x (List.mem_cons_of_mem _ hx))
      refine ⟨⟨_ :: l, p, by rw [e]; rfl, fun x hx => ?_⟩, fun x hx hx2 => ?_, fun x hx hx2 => ?_⟩
      · rcases List.mem_cons.1 hx with rfl | hx
        · exact kind_no ne cs i h0
        · exact hl x hx
      · rcases List.mem_cons.1 hx with rfl | hx
        · exact (cut_arw hok hx2).1
        · exact ha x hx hx2
      · rcases List.mem_cons.1 hx with rfl | hx
        · exact (cut_sem hok hx2).1
        · exact hs x hx hx2
    · rw [if_neg h0] at he
      exact absurd (he _ (List.mem_singleton.2 rfl)) h0
  · rw [if_neg hi]
    refine ⟨⟨[], i, rfl, by simp⟩, fun x hx hx2 => ?_, fun x hx hx2 => ?_⟩
    · rw [List.mem_singleton.1 hx] at hx2
      exact absurd (show noT = arwT from hx2) (by decide)
    · rw [List.mem_singleton.1 hx] at hx2
      exact absurd (show noT = semT from hx2) (by decide)
theorem RowT.endT {T : List Tk} (h : RowT T) : EndT T := by
 obtain ⟨l, p, e, _⟩ := h.ends
 exact ⟨l, p, e⟩
theorem enc_is {c : Int} (hc : okRune c) : (Utf8.encode c).data.toList = Lib.encodeRune c := by
 have hr := okRune_le hc
 obtain ⟨n, rfl⟩ : ∃ n : Nat, c = n := ⟨c.toNat, by unfold okRune at hc; omega⟩
 rw [enc_list _ hc]
 unfold Lib.encodeRune
 rw [Int.toNat_natCast] at *
 by_cases a1 : n < 128
 · rw [if_pos a1, Lib.encodeRuneZ_one (by omega) (by omega)]
   simp only [List.map_cons, List.map_nil, Int.toNat_natCast]
 rw [if_neg a1]
 by_cases a2 : n < 2048
 · rw [if_pos a2, Lib.encodeRuneZ_two (by omega) (by omega)]
   simp only [List.map_cons, List.map_nil]
   rw [show (192 + (n : Int) / 64).toNat = 192 + n / 64 by omega, show (128 + (n : Int) % 64).toNat = 128 + n % 64 by omega]
 rw [if_neg a2]
 by_cases a3 : n < 65536
 · rw [if_pos a3, Lib.encodeRuneZ_three (by omega)]
   simp only [List.map_cons, List.map_nil]
   rw [show (224 + (n : Int) / 4096).toNat = 224 + n / 4096 by omega, show (128 + (n : Int) / 64 % 64).toNat = 128 + n / 64 % 64 by omega, show (128 + (n : Int) % 64).toNat = 128 + n % 64 by omega]
 rw [if_neg a3, Lib.encodeRuneZ_four (by omega) (by omega)]
 simp only [List.map_cons, List.map_nil]
 rw [show (240 + (n : Int) / 262144).toNat = 240 + n / 262144 by omega, show (128 + (n : Int) / 4096 % 64).toNat = 128 + n / 4096 % 64 by omega, show (128 + (n : Int) / 64 % 64).toNat = 128 + n / 64 % 64 by omega, show (128 + (n : Int) % 64).toNat = 128 + n % 64 by omega]
theorem scan_bytes (s : ByteArray) : ∀ (f pos : Nat) (acc : List Int), pos ≤ s.size → s.size ≤ pos + f → (scanR s f pos acc).2.1 = 0 → (runesBytes (scanR s f pos acc).1).data.toList = (runesBytes acc).data.toList ++ s.data.toList.drop pos
 | 0, pos, acc, hp, hf, _ => by
  rw [scanR, List.drop_of_length_le (by simp; omega), List.append_nil]
 | f + 1, pos, acc, hp, hf, h => by
  rw [scanR] at h ⊢
  by_cases h1 : pos < s.size
  · rw [if_pos h1] at h ⊢
    by_cases h2 : (Utf8.decode s pos).1 = 65533 ∧ (Utf8.decode s pos).2 = 1
    · rw [if_pos h2] at h; simp at h
    rw [if_neg h2] at h ⊢
    have hne := drop_ne h1
    have hd := Lib.decodeL_drop s pos
    have hl := Lib.decodeL_le _ hne
    have he := Lib.encode_decode _ hne (by rw [hd]; exact h2)
    rw [hd] at hl he
    rw [List.length_drop] at hl
    have hsz : s.data.toList.length = s.size := by simp
    have hr : okRune ((Utf8.decode s pos).1 : Int) := by
     have := scanR_ok s 1 pos [] (fun c h => by cases h) ((Utf8.decode s pos).1 : Int) (by rw [scanR, if_pos h1, if_neg h2, scanR]; simp)
     exact this
    have hpos : 1 ≤ (Utf8.decode s pos).2 := by
     have := (enc_len _ hr).1
     rw [enc_is hr, he, List.length_take] at this
     omega
    have e : (runesBytes [((Utf8.decode s pos).1 : Int)]).data.toList ++ s.data.toList.drop (pos + (Utf8.decode s pos).2) = s.data.toList.drop pos := by
     rw [runesBytes_cons, runesBytes_nil, List.append_nil, enc_is hr, he, ← List.drop_drop]
     exact List.take_append_drop _ _
    rw [scan_bytes s f _ _ (by omega) (by omega) h, runes_app2, List.append_assoc, e]
  · rw [if_neg h1, List.drop_of_length_le (by simp; omega), List.append_nil]
theorem text_is {s : ByteArray} (h : (scanR s s.size 0 []).2.1 = 0) : s.data.toList = (runesBytes (scanR s s.size 0 []).1).data.toList := by
 rw [scan_bytes s s.size 0 [] (Nat.zero_le _) (by omega) h]
 simp [runesBytes_nil]
theorem bytes_ext {a b : ByteArray} (h : a.data.toList = b.data.toList) : a = b := ByteArray.ext (Array.toList_inj.mp h)
def dlabF (T : List Tk) : ByteArray := if 2 < T.length ∧ tkd T 0 = 3 ∧ ttx T 1 = colT then ttx T 0 else noT
def nmL : List Int → Nat → Bool
 | [], c => decide (0 < c)
 | x :: r, c => if c = 32 ∨ (bn x = false ∧ (c = 0 ∨ dg x = false)) then false else nmL r (c + 1)
theorem decode_four (s : ByteArray) (pos : Nat) : (Utf8.decode s pos).2 ≤ 4 := by
 rw [← Lib.decodeL_drop, Lib.decodeL_N]
 unfold Lib.decodeN
 repeat' split
 all_goals simp
theorem nmGo_small (s : ByteArray) : ∀ (f pos c : Nat), pos ≤ s.size → s.size ≤ pos + f → nmGo s f pos c = true → c ≤ 32 → s.size + 4 * c ≤ pos + 128
 | 0, pos, c, h1, h2, _, hc => by omega
 | f + 1, pos, c, h1, h2, h, hc => by
  rw [nmGo] at h
  by_cases hp : pos < s.size
  · rw [if_pos hp] at h
    by_cases hx : c = 32 ∨ (bn ((Utf8.decode s pos).1 : Int) = false ∧ (c = 0 ∨ dg ((Utf8.decode s pos).1 : Int) = false))
    · rw [if_pos hx] at h; cases h
    · rw [if_neg hx] at h
      have h3 : ¬ c = 32 := fun e => hx (Or.inl e)
      have hw := Lib.decode_width_pos s pos hp
      have h4 := decode_four s pos
      have := nmGo_small s f _ _ (decode_end s pos hp) (by omega) h (by omega)
      omega
  · omega
theorem nmGo_scan (s : ByteArray) : ∀ (f pos c : Nat) (acc : List Int), pos ≤ s.size → s.size ≤ pos + f →
    ((scanR s f pos acc).2.1 = 0 ∧ ∃ l, (scanR s f pos acc).1 = acc ++ l ∧ nmGo s f pos c = nmL l c) ∨ (¬ (scanR s f pos acc).2.1 = 0 ∧ nmGo s f pos c = false)
 | 0, pos, c, acc, h1, h2 => Or.inl ⟨by rw [scanR], [], by rw [scanR, List.append_nil], rfl⟩
 | f + 1, pos, c, acc, h1, h2 => by
  rw [scanR, nmGo]
  by_cases hp : pos < s.size
  · rw [if_pos hp, if_pos hp]
    by_cases hb : (Utf8.decode s pos).1 = 65533 ∧ (Utf8.decode s pos).2 = 1
    · rw [if_pos hb]
      refine Or.inr ⟨by simp, ?_⟩
      rw [if_pos (Or.inr ⟨by rw [hb.1]; decide, Or.inr (by rw [hb.1]; decide)⟩)]
    · rw [if_neg hb]
      have hw := Lib.decode_width_pos s pos hp
      rcases nmGo_scan s f (pos + (Utf8.decode s pos).2) (c + 1) (acc ++ [((Utf8.decode s pos).1 : Int)]) (decode_end s pos hp) (by omega) with ⟨e, l, hl, hn⟩ | ⟨e, hn⟩
      · refine Or.inl ⟨e, ((Utf8.decode s pos).1 : Int) :: l, by rw [hl, List.append_assoc]; rfl, ?_⟩
        rw [hn, nmL]
      · refine Or.inr ⟨e, ?_⟩
        rw [hn]
        simp
  · rw [if_neg hp, if_neg hp]
    exact Or.inl ⟨rfl, [], by simp, rfl⟩
theorem nmL_true : ∀ (l : List Int) (c : Nat), nmL l c = true → c ≤ 32 → l.length + c ≤ 32 ∧ (∀ x ∈ l, inm x = true) ∧ (c = 0 → 0 < l.length ∧ bn (l.getD 0 0) = true)
 | [], c, h, hc => by
  rw [nmL] at h
  have := of_decide_eq_true h
  exact ⟨by simp; omega, (fun x hx => by cases hx), (fun e => by omega)⟩
 | x :: r, c, h, hc => by
  rw [nmL] at h
  by_cases hx : c = 32 ∨ (bn x = false ∧ (c = 0 ∨ dg x = false))
  · rw [if_pos hx] at h; cases h
  · rw [if_neg hx] at h
    have h3 : ¬ c = 32 := fun e => hx (Or.inl e)
    obtain ⟨g1, g2, _⟩ := nmL_true r (c + 1) h (by omega)
    have hix : inm x = true := by
     unfold inm
     cases hbn : bn x with
     | true => rfl
     | false =>
      cases hdg : dg x with
      | true => rfl
      | false => exact absurd (Or.inr ⟨hbn, Or.inr hdg⟩) hx
    refine ⟨by simp; omega, fun y hy => ?_, fun e => ⟨by simp, ?_⟩⟩
    · rcases List.mem_cons.1 hy with rfl | hy
      · exact hix
      · exact g2 y hy
    · show bn x = true
      cases hbn : bn x with
      | true => rfl
      | false => exact absurd (Or.inr ⟨hbn, Or.inl e⟩) hx
theorem nmL_of : ∀ (l : List Int) (c : Nat), l.length + c ≤ 32 → 0 < l.length + c → (∀ x ∈ l, inm x = true) → (c = 0 → bn (l.getD 0 0) = true) → nmL l c = true
 | [], c, _, h2, _, _ => by rw [nmL]; exact decide_eq_true (by simpa using h2)
 | x :: r, c, h1, h2, h3, h4 => by
  simp only [List.length_cons] at h1
  rw [nmL, if_neg]
  · exact nmL_of r (c + 1) (by omega) (by omega) (fun y hy => h3 y (by simp [hy])) (fun e => by omega)
  · rintro (h | ⟨hb, h | h⟩)
    · omega
    · have := h4 h
      rw [List.getD_cons_zero] at this
      rw [this] at hb; cases hb
    · have := h3 x (by simp)
      unfold inm at this
      rw [hb, h] at this
      cases this
def dnameF (T : List Tk) (s : ByteArray) : Prop := T.length = 2 ∧ tkd T 0 = 3 ∧ ttx T 0 = s
theorem name_doc (ne : ByteArray → Int) (s : ByteArray) : nmGo s s.size 0 0 = true ↔ (allF ne s).2.1 = 0 ∧ dnameF (allF ne s).1 s := by
 have hok : ∀ c ∈ (scanR s s.size 0 []).1, okRune c := scanR_ok s _ 0 [] (fun c hc => by cases hc)
 constructor
 · intro h
   have hsm := nmGo_small s s.size 0 0 (Nat.zero_le _) (by omega) h (by omega)
   rcases nmGo_scan s s.size 0 0 [] (Nat.zero_le _) (by omega) with ⟨e, l, hl, hn⟩ | ⟨_, hn⟩
   · rw [List.nil_append] at hl
     rw [hn] at h
     obtain ⟨g1, g2, g3⟩ := nmL_true l 0 h (by omega)
     obtain ⟨g4, g5⟩ := g3 rfl
     have hb := text_is e
     rw [hl] at hb hok
     have hrun : runEnd inm l 0 = l.length := by
      have h1 := (passTo_le (cs := l) (i := 0) (Nat.zero_le _))
      have h2 : runEnd inm l 0 ≤ l.length := by
       unfold runEnd
       have := (List.takeWhile_prefix inm (l := l.drop 0)).length_le
       rw [List.length_drop] at this
       omega
      rcases Nat.lt_or_ge (runEnd inm l 0) l.length with h' | h'
      · have := runEnd_out l.length 0 (by omega) (Nat.zero_le _) h'
        rw [List.getD_eq_getElem?_getD, List.getElem?_eq_getElem h'] at this
        have h3 := g2 _ (List.getElem_mem h')
        rw [show (some l[runEnd inm l 0]).getD 0 = l[runEnd inm l 0] from rfl, h3] at this
        cases this
      · omega
     obtain ⟨_, _, hbl, h9⟩ := bn_no g5
     have hps : passTo l 0 = 0 := pass_stop g4 hbl h9
     have hnx := next_name ne l 0 g5 (by rw [hrun]; omega)
     have hit : items ne l = [(3, cutText l 0 l.length, 0, 0), (0, ⟨#[]⟩, l.length, 0)] := by
      unfold items
      rw [hps, itemsF, if_pos g4, if_pos (by rw [hnx]), hnx, hrun]
      have hpe : passTo l l.length = l.length := by have := passTo_le (cs := l) (i := l.length) (Nat.le_refl _); omega
      simp only
      rw [hpe]
      obtain ⟨k, hk⟩ : ∃ k, l.length = k + 1 := ⟨l.length - 1, by omega⟩
      rw [hk, itemsF, if_neg (by omega)]
     have hall : allF ne s = (items ne l, 0, 0) := by
      unfold allF
      rw [if_neg (by omega), if_neg (fun h => h e), hl, if_pos (by rw [hit]; rfl)]
     rw [hall, hit]
     refine ⟨rfl, rfl, rfl, ?_⟩
     show cutText l 0 l.length = s
     rw [cut_whole]
     exact (bytes_ext hb).symm
   · rw [hn] at h; cases h
 · rintro ⟨h0, h1, h2, h3⟩
   obtain ⟨a1, a2, a3, a4⟩ := allF_ok h0
   have hb := text_is a2
   rcases nmGo_scan s s.size 0 0 [] (Nat.zero_le _) (by omega) with ⟨e, l, hl, hn⟩ | ⟨e, _⟩
   rotate_left
   · exact absurd a2 e
   rw [List.nil_append] at hl
   rw [hl] at a3 a4 hb hok
   rw [a3] at h1 h2 h3
   rw [hn]
   unfold items at h1 h2 h3
   rw [itemsF] at h1 h2 h3
   by_cases l0 : passTo l 0 < l.length
   rotate_left
   · rw [if_neg l0] at h2; cases h2
   rw [if_pos l0] at h1 h2 h3
   by_cases e0 : (nextF ne l (passTo l 0)).2.2 = 0
   rotate_left
   · rw [if_neg e0] at h2; cases h2
   rw [if_pos e0] at h1 h2 h3
   have t3 := next_three (ne := ne) (cs := l) (i := passTo l 0) h2
   have hj := nextF_end ne l _ l0 e0
   have h3' : cutText l (passTo l 0) (nextF ne l (passTo l 0)).2.1 = s := h3
   have hs1 := scan_back _ (cut_ok hok (i := passTo l 0) (j := (nextF ne l (passTo l 0)).2.1))
   have hs2 := scan_back _ hok
   unfold cutText at h3'
   rw [h3', bytes_ext hb, hs2] at hs1
   have el := congrArg (fun x => x.1.length) hs1
   simp only [List.length_take, List.length_drop] at el
   have hp0 : passTo l 0 = 0 := by omega
   have he0 : (nextF ne l (passTo l 0)).2.1 = l.length := by omega
   rw [hp0] at t3 he0
   rw [t3.2.2] at he0
   simp only at he0
   refine nmL_of l 0 (by have := t3.2.1; omega) (by omega) (fun x hx => ?_) (fun _ => t3.1)
   obtain ⟨m, hm, rfl⟩ := List.mem_iff_getElem.1 hx
   have := runEnd_in2 (p := inm) (cs := l) (i := 0) (Nat.zero_le _) (Nat.zero_le m) (by rw [he0]; exact hm)
   rw [List.getD_eq_getElem?_getD, List.getElem?_eq_getElem hm] at this
   exact this
end Go.Proofs.YtimfnalpmmkndaaGreatDoor
