/- slices.Equal of two equal rows of texts; of two rows of no integers. -/
import Derived.Test.YtafaafdbfdeeoaaGreatDoorSB
import Derived.Test.YtafaafdbfdeeoaaGreatDoorDA
import Derived.Test.YtafaafdbfdeeoaaGreatDoorLX
import Derived.Test.YtafaafdbfdeeoaaGreatDoorDC
namespace Go.Proofs.YtafaafdbfdeeoaaGreatDoor
set_option linter.unusedVariables false
set_option linter.unusedSimpArgs false
open Go.RowKit

set_option maxRecDepth 100000 in
set_option maxHeartbeats 4000000 in
theorem equal_strs {B B' : Nat} {w : World} {a a' : Option Addr} {c c' : Nat} {ss : List ByteArray} (h1 : RdS B w (.slice a ss.length c) ss) (h2 : RdS B' w (.slice a' ss.length c') ss) :
    Calls Tryz.prog 30 #[.slice a ss.length c, .slice a' ss.length c'] w fun e w' => e = .returned (.bool true) ∧ ∃ q, w' = w.drewN q := by
  have H1 : Hid (RdS B w (.slice a ss.length c) ss) := h1
  have H2 : Hid (RdS B' w (.slice a' ss.length c') ss) := h2
  obtain ⟨hc1, hc2⟩ := h1.cap
  clear h1 h2
  go_enter Tryz.func30, Tryz.ntmps30
  go_wp2
  go_loopw [13] (fun s wr => (∃ q, wr = w.drewN q) ∧ ∃ j : Nat, j ≤ ss.length ∧ s = .int .i64 j) (fun s _ => ss.length - (intOf s).toNat)
  case atStart => exact ⟨⟨0, rfl⟩, 0, Nat.zero_le _, rfl⟩
  case round =>
    obtain ⟨⟨q, rfl⟩, j, hj, rfl⟩ := hrel
    by_cases hlt : j < ss.length
    · obtain ⟨g, o, rfl, hg, hc⟩ := H1.out.ptr (by omega)
      obtain ⟨g', o', rfl, hg', hc'⟩ := H2.out.ptr (by omega)
      have q1 := hc j hlt
      have q2 := hc' j hlt
      generalize ss.getD j noT = p at *
      clear hc hc'
      go_wp2
      go_quiet (fail)
      go_wp2
      go_roundw
      case rel => exact ⟨⟨_, rfl⟩, j + 1, by omega, by go_num⟩
      case measure => simp [intOf]; omega
    · go_wp2
      go_ret
      exact ⟨rfl, _, rfl⟩
set_option maxRecDepth 100000 in
theorem equal_ints0 (a1 a2 : Option Addr) (c1 c2 : Nat) (w : World) :
    Calls Tryz.prog 31 #[.slice a1 0 c1, .slice a2 0 c2] w fun e w' => e = .returned (.bool true) ∧ w = w' := by
  go_enter Tryz.func31, Tryz.ntmps31
  go_wp2
  go_loopw [13] (fun s wr => wr = w ∧ s = .int .i64 0) (fun _ _ => 0)
  case atStart => exact ⟨rfl, rfl⟩
  case round =>
    obtain ⟨rfl, rfl⟩ := hrel
    go_wp2
    go_ret
    exact ⟨rfl, rfl⟩
end Go.Proofs.YtafaafdbfdeeoaaGreatDoor

/- A row of names and signs written anew is read as the same row: the mathematics. -/
namespace Go.Proofs.YtafaafdbfdeeoaaGreatDoor
set_option linter.unusedVariables false
set_option linter.unusedSimpArgs false
open Go.RowKit

/-- Characters in bytes. -/
def nb (l : List Int) : Nat := (runesBytes l).data.toList.length
theorem nb_app (a b : List Int) : nb (a ++ b) = nb a + nb b := by
  unfold nb
  rw [runes_app2, List.length_append]
theorem nb_one (c : Int) : 1 ≤ nb [c] := by
  have h1 : 1 ≤ (Utf8.encode c).data.toList.length := by
    unfold Utf8.encode
    simp only
    generalize (if Utf8.valid c = true then c.toNat else Utf8.runeError) = n
    split
    · simp
    · split
      · simp
      · split <;> simp
  unfold nb
  rw [runesBytes_cons, List.length_append]
  omega
theorem nb_pos {l : List Int} (h : l ≠ []) : 1 ≤ nb l := by
  cases l with
  | nil => exact absurd rfl h
  | cons c l =>
    have := nb_one c
    have h2 := nb_app [c] l
    rw [List.singleton_append] at h2
    omega
theorem nb_cut {cs : List Int} {i j : Nat} (h : i ≤ j) : nb (cs.drop i) = nb ((cs.drop i).take (j - i)) + nb (cs.drop j) := by
  rw [← nb_app]
  congr 1
  have := List.take_append_drop (j - i) (cs.drop i)
  rw [List.drop_drop] at this
  rw [show i + (j - i) = j by omega] at this
  exact this.symm
theorem nb_less {cs : List Int} {i j : Nat} (h : i ≤ j) : nb (cs.drop j) ≤ nb (cs.drop i) := by
  have := nb_cut (cs := cs) h
  omega
theorem nb_gap {cs : List Int} {i j : Nat} (h : i < j) (hj : j ≤ cs.length) : nb (cs.drop j) + 1 ≤ nb (cs.drop i) := by
  have h1 := nb_cut (cs := cs) (Nat.le_of_lt h)
  have h2 := nb_pos (l := (cs.drop i).take (j - i)) (by
    intro e
    have := congrArg List.length e
    rw [List.length_take, List.length_drop, List.length_nil] at this
    omega)
  omega

/-- A row of tokens as it is written: a blank between two names. -/
def laid : Bool → List (Int × ByteArray) → List UInt8
  | _, [] => []
  | b, (k, x) :: r => (if b = true ∧ k = 3 then [32] else []) ++ (x.data.toList ++ laid (decide (k = 3)) r)
theorem laid_true (l : List (Int × ByteArray)) : (laid true l).length ≤ (laid false l).length + 1 := by
  cases l with
  | nil => simp [laid]
  | cons p r =>
    obtain ⟨k, x⟩ := p
    unfold laid
    by_cases hk : k = 3
    · simp [hk]
    · simp [hk]
theorem laid_no {k : Int} {x : ByteArray} {r : List (Int × ByteArray)} (hk : ¬ k = 3) : laid true ((k, x) :: r) = laid false ((k, x) :: r) := by
  unfold laid
  simp [hk]
theorem bn_inm {c : Int} (h : bn c = true) : inm c = true := by
  unfold inm
  rw [h]
  rfl
theorem next_three {ne : ByteArray → Int} {cs : List Int} {i : Nat} (h : (nextF ne cs i).1 = 3) : bn (cs.getD i 0) = true ∧ runEnd inm cs i - i ≤ 32 ∧ (nextF ne cs i) = (3, runEnd inm cs i, 0) := by
  unfold nextF at h ⊢
  by_cases h1 : cs.getD i 0 = 175 ∨ dg (cs.getD i 0) = true
  · rw [if_pos h1] at h; simp at h
  rw [if_neg h1] at h ⊢
  by_cases h2 : cs.getD i 0 = 39
  · rw [if_pos h2] at h
    split at h <;> simp at h
  rw [if_neg h2] at h ⊢
  by_cases h3 : bn (cs.getD i 0) = true
  · rw [if_pos h3] at h ⊢
    by_cases h4 : runEnd inm cs i - i ≤ 32
    · rw [if_pos h4]
      exact ⟨h3, h4, rfl⟩
    · rw [if_neg h4] at h; simp at h
  rw [if_neg h3] at h
  by_cases h5 : cs.getD i 0 = 9109
  · rw [if_pos h5] at h; simp at h
  rw [if_neg h5] at h
  by_cases h6 : cs.getD i 0 ∈ decs prims prims.size 0
  · rw [if_pos h6] at h; simp at h
  rw [if_neg h6] at h
  by_cases h7 : cs.getD i 0 ∈ decs sgns sgns.size 0
  · rw [if_pos h7] at h; simp at h
  rw [if_neg h7] at h; simp at h
/-- What is written anew is no longer than what was read. -/
theorem laid_size {ne : ByteArray → Int} {cs : List Int} : ∀ f i, i ≤ cs.length → (laid false ((itemsF ne cs f i).map kt)).length ≤ nb (cs.drop i)
  | 0, i, hi => by simp [itemsF, laid]
  | f + 1, i, hi => by
    rw [itemsF]
    by_cases hl : i < cs.length
    · rw [if_pos hl]
      by_cases h0 : (nextF ne cs i).2.2 = 0
      · rw [if_pos h0]
        have hn := nextF_end ne cs i hl h0
        have hp := passTo_le (cs := cs) (i := (nextF ne cs i).2.1) hn.2
        have ih := laid_size (ne := ne) (cs := cs) f (passTo cs (nextF ne cs i).2.1) hp.2
        have hc := nb_cut (cs := cs) (Nat.le_of_lt hn.1)
        have hd := nb_less (cs := cs) hp.1
        rw [List.map_cons]
        unfold kt laid
        simp only [Bool.false_eq_true, false_and, if_false, List.nil_append, List.length_append]
        have hcut : (cutText cs i (nextF ne cs i).2.1).data.toList.length = nb ((cs.drop i).take ((nextF ne cs i).2.1 - i)) := rfl
        rw [hcut, hc]
        suffices hs : (laid (decide ((nextF ne cs i).1 = 3)) (List.map (fun t : Int × ByteArray × Nat × Int => (t.1, t.2.1)) (itemsF ne cs f (passTo cs (nextF ne cs i).2.1)))).length ≤ nb (cs.drop (nextF ne cs i).2.1) by omega
        by_cases hk : (nextF ne cs i).1 = 3
        · rw [decide_eq_true hk]
          obtain ⟨_, _, h3⟩ := next_three hk
          by_cases hg : passTo cs (nextF ne cs i).2.1 = (nextF ne cs i).2.1
          · cases f with
            | zero => simp [itemsF, laid]
            | succ f =>
              have hh : laid true ((itemsF ne cs (f + 1) (passTo cs (nextF ne cs i).2.1)).map kt) = laid false ((itemsF ne cs (f + 1) (passTo cs (nextF ne cs i).2.1)).map kt) := by
                rw [itemsF]
                by_cases hl2 : passTo cs (nextF ne cs i).2.1 < cs.length
                · rw [if_pos hl2]
                  by_cases h02 : (nextF ne cs (passTo cs (nextF ne cs i).2.1)).2.2 = 0
                  · rw [if_pos h02, List.map_cons]
                    by_cases hk2 : (nextF ne cs (passTo cs (nextF ne cs i).2.1)).1 = 3
                    · exfalso
                      obtain ⟨hb, _, _⟩ := next_three hk2
                      rw [hg] at hb
                      have ho := runEnd_out (p := inm) (cs := cs) (cs.length - i) i (Nat.le_refl _) hi
                      rw [hg] at hl2
                      have e3 : (nextF ne cs i).2.1 = runEnd inm cs i := by rw [h3]
                      rw [e3] at hb hl2
                      have := ho hl2
                      rw [bn_inm hb] at this
                      exact Bool.noConfusion this
                    · exact laid_no hk2
                  · rw [if_neg h02]
                    exact laid_no (by simp [kt])
                · rw [if_neg hl2]
                  exact laid_no (by simp [kt])
              have hh2 := congrArg List.length hh
              unfold kt at hh2 ih
              omega
          · have hg2 := nb_gap (cs := cs) (i := (nextF ne cs i).2.1) (j := passTo cs (nextF ne cs i).2.1) (by omega) hp.2
            have := laid_true ((itemsF ne cs f (passTo cs (nextF ne cs i).2.1)).map kt)
            unfold kt at this ih
            omega
        · rw [decide_eq_false hk]
          unfold kt at ih
          omega
      · rw [if_neg h0]
        simp [kt, laid]
    · rw [if_neg hl]
      simp [kt, laid]

def laidC : Bool → List (Int × List Int) → List Int
  | _, [] => []
  | b, (k, x) :: r => (if b = true ∧ k = 3 then [32] else []) ++ (x ++ laidC (decide (k = 3)) r)
def GoodP (p : Int × List Int) : Prop := (p.1 = 3 ∧ bn (p.2.getD 0 0) = true ∧ 0 < p.2.length ∧ p.2.length ≤ 32 ∧ ∀ m, m < p.2.length → inm (p.2.getD m 0) = true) ∨ (p.1 = 6 ∧ (p.2 = [8592] ∨ p.2 = [59]))
def inB (p : Int × List Int) : Int × ByteArray := (p.1, runesBytes p.2)
theorem laidC_bytes : ∀ (L : List (Int × List Int)) (b : Bool), (runesBytes (laidC b L)).data.toList = laid b (L.map inB)
  | [], b => rfl
  | (k, x) :: r, b => by
    rw [List.map_cons]
    unfold laidC inB laid
    rw [runes_app2, runes_app2, laidC_bytes r]
    congr 1
    by_cases h : b = true ∧ k = 3
    · rw [if_pos h, if_pos h]
      decide +kernel
    · rw [if_neg h, if_neg h]
      rfl
theorem laidC_next (r : List (Int × List Int)) (h : ∀ p ∈ r, GoodP p) : laidC true r = [] ∨ inm ((laidC true r).getD 0 0) = false := by
  cases r with
  | nil => exact Or.inl rfl
  | cons p r =>
    right
    obtain ⟨k, x⟩ := p
    unfold laidC
    rcases h _ (List.mem_cons_self ..) with ⟨hk, _⟩ | ⟨hk, hx⟩
    · simp only at hk
      subst hk
      simp [inm, bn, lt, dg]
    · simp only at hk hx
      subst hk
      rcases hx with rfl | rfl <;> simp [inm, bn, lt, dg]
theorem bn_no {c : Int} (h : bn c = true) : ¬ (c = 175 ∨ dg c = true) ∧ ¬ c = 39 ∧ bl c = false ∧ ¬ c = 9053 := by
  simp [bn, lt, dg, bl] at h ⊢
  omega
theorem next_name (ne : ByteArray → Int) (cs : List Int) (i : Nat) (h : bn (cs.getD i 0) = true) (h2 : runEnd inm cs i - i ≤ 32) : nextF ne cs i = (3, runEnd inm cs i, 0) := by
  obtain ⟨a, b, _⟩ := bn_no h
  unfold nextF
  rw [if_neg a, if_neg b, if_pos h, if_pos h2]
theorem next_arw (ne : ByteArray → Int) (cs : List Int) (i : Nat) (h : cs.getD i 0 = 8592) : nextF ne cs i = (6, i + 1, 0) := by
  unfold nextF
  rw [h, if_neg (by decide), if_neg (by decide), if_neg (by decide), if_neg (by decide), if_neg (by decide +kernel), if_pos (by decide +kernel)]
theorem next_sem (ne : ByteArray → Int) (cs : List Int) (i : Nat) (h : cs.getD i 0 = 59) : nextF ne cs i = (6, i + 1, 0) := by
  unfold nextF
  rw [h, if_neg (by decide), if_neg (by decide), if_neg (by decide), if_neg (by decide), if_neg (by decide +kernel), if_pos (by decide +kernel)]
theorem getD_app (a b : List Int) (m : Nat) : (a ++ b).getD (a.length + m) 0 = b.getD m 0 := by
  rw [List.getD_eq_getElem?_getD, List.getD_eq_getElem?_getD, List.getElem?_append_right (by omega), Nat.add_sub_cancel_left]
theorem getD_app0 {a b : List Int} {m : Nat} (h : m < a.length) : (a ++ b).getD m 0 = a.getD m 0 := by
  rw [List.getD_eq_getElem?_getD, List.getD_eq_getElem?_getD, List.getElem?_append_left h]
/-- One piece read. -/
theorem next_piece {ne : ByteArray → Int} {P R : List Int} {k : Int} {x : List Int} (h : GoodP (k, x)) (hR : k = 3 → R = [] ∨ inm (R.getD 0 0) = false) : nextF ne (P ++ (x ++ R)) P.length = (k, P.length + x.length, 0) ∧ 0 < x.length ∧ bl ((P ++ (x ++ R)).getD P.length 0) = false ∧ ¬ (P ++ (x ++ R)).getD P.length 0 = 9053 := by
  have g0 : ∀ m, m < x.length → (P ++ (x ++ R)).getD (P.length + m) 0 = x.getD m 0 := fun m hm => by rw [getD_app, getD_app0 hm]
  rcases h with ⟨hk, h1, h2, h3, h4⟩ | ⟨hk, hx⟩
  · simp only at hk h1 h2 h3 h4
    subst hk
    have e0 := g0 0 h2
    rw [Nat.add_zero] at e0
    have hr : runEnd inm (P ++ (x ++ R)) P.length = P.length + x.length := by
      refine runEnd_is (by omega) (by simp only [List.length_append]; omega) (fun k hk1 hk2 => ?_) ?_
      · obtain ⟨m, rfl⟩ : ∃ m, k = P.length + m := ⟨k - P.length, by omega⟩
        rw [g0 m (by omega)]
        exact h4 m (by omega)
      · rcases hR rfl with rfl | hR
        · left
          simp
        · right
          rw [getD_app]
          have := getD_app x R 0
          rw [Nat.add_zero] at this
          rw [this]
          exact hR
    obtain ⟨_, _, a, b⟩ := bn_no h1
    refine ⟨?_, h2, by rw [e0]; exact a, by rw [e0]; exact b⟩
    rw [← hr]
    exact next_name ne _ _ (by rw [e0]; exact h1) (by omega)
  · simp only at hk hx
    subst hk
    rcases hx with rfl | rfl
    · have e0 := g0 0 (by simp)
      rw [Nat.add_zero] at e0
      have e1 : (P ++ ([8592] ++ R)).getD P.length 0 = 8592 := e0
      exact ⟨next_arw ne _ _ e1, by simp, by rw [e1]; decide, by rw [e1]; decide⟩
    · have e0 := g0 0 (by simp)
      rw [Nat.add_zero] at e0
      have e1 : (P ++ ([59] ++ R)).getD P.length 0 = 59 := e0
      exact ⟨next_sem ne _ _ e1, by simp, by rw [e1]; decide, by rw [e1]; decide⟩
/-- What is written is read. -/
theorem relex {ne : ByteArray → Int} : ∀ (L : List (Int × List Int)) (pre : List Int) (b : Bool) (f : Nat), (∀ p ∈ L, GoodP p) → (pre ++ laidC b L).length < passTo (pre ++ laidC b L) pre.length + f →
    (itemsF ne (pre ++ laidC b L) f (passTo (pre ++ laidC b L) pre.length)).map kt = L.map inB ++ [(0, noT)] ∧ ∀ x ∈ itemsF ne (pre ++ laidC b L) f (passTo (pre ++ laidC b L) pre.length), x.2.2.2 = 0
  | [], pre, b, f, _, hf => by
    have e : pre ++ laidC b [] = pre := by unfold laidC; simp
    rw [e] at hf ⊢
    rw [passTo_end] at hf ⊢
    cases f with
    | zero => omega
    | succ f =>
      rw [itemsF, if_neg (by omega)]
      refine ⟨rfl, fun x hx => ?_⟩
      rw [List.mem_singleton.1 hx]
  | (k, x) :: r, pre, b, f, hg, hf => by
    have hp := hg _ (List.mem_cons_self ..)
    have hr := fun p hp => hg p (List.mem_cons_of_mem _ hp)
    have hR : k = 3 → laidC (decide (k = 3)) r = [] ∨ inm ((laidC (decide (k = 3)) r).getD 0 0) = false := fun hk => by
      rw [decide_eq_true hk]
      exact laidC_next r hr
    have e : pre ++ laidC b ((k, x) :: r) = (pre ++ (if b = true ∧ k = 3 then [32] else [])) ++ (x ++ laidC (decide (k = 3)) r) := by
      rw [List.append_assoc]
      rfl
    have hsp : ∀ m, m < (if b = true ∧ k = 3 then [(32 : Int)] else []).length → (if b = true ∧ k = 3 then [(32 : Int)] else []).getD m 0 = 32 := fun m hm => by
      split at hm
      · rw [List.length_singleton] at hm
        obtain rfl : m = 0 := by omega
        rename_i h
        rw [if_pos h]
        rfl
      · simp at hm
    rw [e] at hf ⊢
    generalize hS : (if b = true ∧ k = 3 then [(32 : Int)] else []) = sp at *
    obtain ⟨n1, n2, n3, n4⟩ := next_piece (ne := ne) (P := pre ++ sp) hp hR
    have ih := relex (ne := ne) r ((pre ++ sp) ++ x) (decide (k = 3))
    rw [List.append_assoc (pre ++ sp) x] at ih
    generalize hcs : (pre ++ sp) ++ (x ++ laidC (decide (k = 3)) r) = cs at *
    have hl : cs.length = pre.length + sp.length + x.length + (laidC (decide (k = 3)) r).length := by
      rw [← hcs]
      simp only [List.length_append]
      omega
    rw [List.length_append] at n1 n3 n4
    have hrun : runEnd bl cs pre.length = pre.length + sp.length := by
      refine runEnd_is (by omega) (by omega) (fun k hk1 hk2 => ?_) (Or.inr n3)
      obtain ⟨m, rfl⟩ : ∃ m, k = pre.length + m := ⟨k - pre.length, by omega⟩
      rw [← hcs, List.append_assoc, getD_app, getD_app0 (by omega), hsp m (by omega)]
      rfl
    have hpass : passTo cs pre.length = pre.length + sp.length := by
      unfold passTo
      rw [hrun, if_neg (fun h => n4 h.2)]
    have hcut : cutText cs (pre.length + sp.length) (pre.length + sp.length + x.length) = runesBytes x := by
      unfold cutText
      rw [← hcs, ← List.length_append, List.drop_left, Nat.add_sub_cancel_left, List.take_left]
    rw [hpass] at hf ⊢
    cases f with
    | zero => omega
    | succ f =>
      have hj := passTo_le (cs := cs) (i := pre.length + sp.length + x.length) (by omega)
      rw [itemsF, if_pos (by omega), n1, if_pos rfl]
      simp only
      rw [hcut]
      have e2 : ((pre ++ sp) ++ x).length = pre.length + sp.length + x.length := by simp only [List.length_append]
      rw [e2] at ih
      obtain ⟨i1, i2⟩ := ih f hr (by omega)
      refine ⟨?_, fun y hy => ?_⟩
      · rw [List.map_cons, i1]
        rfl
      · rcases List.mem_cons.1 hy with rfl | hy
        · rfl
        · exact i2 y hy
end Go.Proofs.YtafaafdbfdeeoaaGreatDoor

/- What a header says, written anew, is the same header: the mathematics. -/
namespace Go.Proofs.YtafaafdbfdeeoaaGreatDoor
set_option linter.unusedVariables false
set_option linter.unusedSimpArgs false
open Go.RowKit

theorem arw_scan : (scanR arwT arwT.size 0 []).1 = [8592] := by decide +kernel
theorem sem_scan : (scanR semT semT.size 0 []).1 = [59] := by decide +kernel
theorem cut_ok {cs : List Int} (hok : ∀ c ∈ cs, okRune c) {i j : Nat} : ∀ c ∈ (cs.drop i).take (j - i), okRune c := fun c hc => hok c (List.mem_of_mem_drop (List.mem_of_mem_take hc))
theorem cut_first {cs : List Int} {i j : Nat} {c : Int} (h : (cs.drop i).take (j - i) = [c]) : cs.getD i 0 = c := by
  cases hd : cs.drop i with
  | nil => rw [hd] at h; simp at h
  | cons a l =>
    rw [hd] at h
    have hi : i < cs.length := by
      have := congrArg List.length hd
      rw [List.length_drop, List.length_cons] at this
      omega
    rw [List.drop_eq_getElem_cons hi] at hd
    cases hn : j - i with
    | zero => rw [hn] at h; simp at h
    | succ n =>
      rw [hn, List.take_succ_cons] at h
      have e1 := (List.cons.inj h).1
      have e2 := (List.cons.inj hd).1
      rw [← e1, ← e2]
      simp [List.getD, hi]
theorem cut_arw {ne : ByteArray → Int} {cs : List Int} (hok : ∀ c ∈ cs, okRune c) {i j : Nat} (h : cutText cs i j = arwT) : (nextF ne cs i).1 = 6 ∧ (cs.drop i).take (j - i) = [8592] := by
  have hs := scan_back _ (cut_ok hok (i := i) (j := j))
  unfold cutText at h
  rw [h] at hs
  have e : (cs.drop i).take (j - i) = [8592] := by rw [← arw_scan, hs]
  exact ⟨by rw [next_arw ne cs i (cut_first e)], e⟩
theorem cut_sem {ne : ByteArray → Int} {cs : List Int} (hok : ∀ c ∈ cs, okRune c) {i j : Nat} (h : cutText cs i j = semT) : (nextF ne cs i).1 = 6 ∧ (cs.drop i).take (j - i) = [59] := by
  have hs := scan_back _ (cut_ok hok (i := i) (j := j))
  unfold cutText at h
  rw [h] at hs
  have e : (cs.drop i).take (j - i) = [59] := by rw [← sem_scan, hs]
  exact ⟨by rw [next_sem ne cs i (cut_first e)], e⟩
/-- A row of tokens as all gives it: ends with the end, no end before, signs are signs. -/
structure RowT (T : List Tk) : Prop where
  ends : ∃ l p, T = l ++ [(0, ⟨#[]⟩, p, 0)] ∧ ∀ x ∈ l, ¬ x.1 = 0
  arw : ∀ x ∈ T, x.2.1 = arwT → x.1 = 6
  sem : ∀ x ∈ T, x.2.1 = semT → x.1 = 6
theorem rowT_of {ne : ByteArray → Int} {cs : List Int} (hok : ∀ c ∈ cs, okRune c) : ∀ f i, i ≤ cs.length → cs.length < i + f → (∀ x ∈ itemsF ne cs f i, x.2.2.2 = 0) → RowT (itemsF ne cs f i)
  | 0, i, h1, h2, _ => by omega
  | f + 1, i, h1, h2, he => by
    rw [itemsF] at he ⊢
    by_cases hi : i < cs.length
    · rw [if_pos hi] at he ⊢
      by_cases h0 : (nextF ne cs i).2.2 = 0
      · rw [if_pos h0] at he ⊢
        have hn := nextF_end ne cs i hi h0
        have hp := passTo_le (cs := cs) (i := (nextF ne cs i).2.1) hn.2
        obtain ⟨⟨l, p, e, hl⟩, ha, hs⟩ := rowT_of hok f _ hp.2 (by omega) (fun x hx => he x (List.mem_cons_of_mem _ hx))
        refine ⟨⟨_ :: l, p, by rw [e]; rfl, fun x hx => ?_⟩, fun x hx hx2 => ?_, fun x hx hx2 => ?_⟩
        · rcases List.mem_cons.1 hx with rfl | hx
          · exact kind_no ne cs i h0
          · exact hl x hx
        · rcases List.mem_cons.1 hx with rfl | hx
          · exact (cut_arw hok hx2).1
          · exact ha x hx hx2
        · rcases List.mem_cons.1 hx with rfl | hx
          · exact (cut_sem hok hx2).1
          · exact hs x hx hx2
      · rw [if_neg h0] at he
        exact absurd (he _ (List.mem_singleton.2 rfl)) h0
    · rw [if_neg hi]
      refine ⟨⟨[], i, rfl, by simp⟩, fun x hx hx2 => ?_, fun x hx hx2 => ?_⟩
      · rw [List.mem_singleton.1 hx] at hx2
        exact absurd (show noT = arwT from hx2) (by decide)
      · rw [List.mem_singleton.1 hx] at hx2
        exact absurd (show noT = semT from hx2) (by decide)
theorem toks_good {ne : ByteArray → Int} {cs : List Int} (hok : ∀ c ∈ cs, okRune c) : ∀ f i, i ≤ cs.length → cs.length < i + f → (∀ x ∈ itemsF ne cs f i, x.2.2.2 = 0) → (∀ x ∈ itemsF ne cs f i, x.1 = 3 ∨ x.2.1 = arwT ∨ x.2.1 = semT ∨ x.1 = 0) →
    ∃ L : List (Int × List Int), (∀ p ∈ L, GoodP p) ∧ (itemsF ne cs f i).map kt = L.map inB ++ [(0, noT)]
  | 0, i, h1, h2, _, _ => by omega
  | f + 1, i, h1, h2, he, hk => by
    rw [itemsF] at he hk ⊢
    by_cases hi : i < cs.length
    · rw [if_pos hi] at he hk ⊢
      by_cases h0 : (nextF ne cs i).2.2 = 0
      · rw [if_pos h0] at he hk ⊢
        have hn := nextF_end ne cs i hi h0
        have hp := passTo_le (cs := cs) (i := (nextF ne cs i).2.1) hn.2
        obtain ⟨L, hL, e⟩ := toks_good hok f _ hp.2 (by omega) (fun x hx => he x (List.mem_cons_of_mem _ hx)) (fun x hx => hk x (List.mem_cons_of_mem _ hx))
        refine ⟨((nextF ne cs i).1, (cs.drop i).take ((nextF ne cs i).2.1 - i)) :: L, fun p hp => ?_, by rw [List.map_cons, e]; rfl⟩
        rcases List.mem_cons.1 hp with rfl | hp
        · rcases hk _ (List.mem_cons_self ..) with h3 | h3 | h3 | h3
          · left
            obtain ⟨b1, b2, b3⟩ := next_three h3
            have e3 : (nextF ne cs i).2.1 = runEnd inm cs i := by rw [b3]
            have hlen : ((cs.drop i).take ((nextF ne cs i).2.1 - i)).length = (nextF ne cs i).2.1 - i := by
              rw [List.length_take, List.length_drop]
              omega
            have hget : ∀ m, m < (nextF ne cs i).2.1 - i → ((cs.drop i).take ((nextF ne cs i).2.1 - i)).getD m 0 = cs.getD (i + m) 0 := fun m hm => by
              rw [List.getD_eq_getElem?_getD, List.getD_eq_getElem?_getD, List.getElem?_take_of_lt hm, List.getElem?_drop]
            refine ⟨h3, ?_, by rw [hlen]; omega, by rw [hlen]; omega, fun m hm => ?_⟩
            · rw [hget 0 (by omega)]
              exact b1
            · rw [hlen] at hm
              rw [hget m hm]
              exact runEnd_in2 h1 (by omega) (by omega)
          · have := cut_arw (ne := ne) hok h3
            exact Or.inr ⟨this.1, Or.inl this.2⟩
          · have := cut_sem (ne := ne) hok h3
            exact Or.inr ⟨this.1, Or.inr this.2⟩
          · exact absurd h3 (kind_no ne cs i h0)
        · exact hL p hp
      · rw [if_neg h0] at he
        exact absurd (he _ (List.mem_singleton.2 rfl)) h0
    · rw [if_neg hi]
      exact ⟨[], fun p hp => absurd hp List.not_mem_nil, rfl⟩

theorem RowT.endT {T : List Tk} (h : RowT T) : EndT T := by
  obtain ⟨l, p, e, _⟩ := h.ends
  exact ⟨l, p, e⟩
theorem tk_at {T : List Tk} {k : Nat} (h : k < T.length) : T[k].1 = tkd T k ∧ T[k].2.1 = ttx T k := by
  unfold tkd ttx
  simp [List.getD, h]
theorem tkd_far {T : List Tk} {k : Nat} (h : T.length ≤ k) : tkd T k = 0 ∧ ttx T k = noT := by
  unfold tkd ttx
  rw [List.getD_eq_getElem?_getD, List.getElem?_eq_none h]
  exact ⟨rfl, rfl⟩
theorem drop_kt {T : List Tk} {k : Nat} (h : k < T.length) : (T.drop k).map kt = (tkd T k, ttx T k) :: (T.drop (k + 1)).map kt := by
  rw [List.drop_eq_getElem_cons h, List.map_cons]
  unfold kt
  rw [(tk_at h).1, (tk_at h).2]
theorem RowT.less {T : List Tk} (h : RowT T) {k : Nat} (hk : ¬ tkd T k = 0 ∨ ¬ ttx T k = noT) : k < T.length ∧ k + 1 < T.length := by
  have h1 : k < T.length := by
    rcases Nat.lt_or_ge k T.length with g | g
    · exact g
    · have := tkd_far g
      rcases hk with hk | hk
      · exact absurd this.1 hk
      · exact absurd this.2 hk
  exact ⟨h1, h.endT.next h1 hk⟩
theorem RowT.six {T : List Tk} (h : RowT T) {k : Nat} (hk : ttx T k = arwT ∨ ttx T k = semT) : tkd T k = 6 := by
  have hl := (h.less (k := k) (Or.inr (by rcases hk with e | e <;> rw [e] <;> decide))).1
  have ha := tk_at hl
  rw [← ha.1]
  rcases hk with e | e
  · exact h.arw _ (List.getElem_mem hl) (by rw [ha.2, e])
  · exact h.sem _ (List.getElem_mem hl) (by rw [ha.2, e])
theorem RowT.names {T : List Tk} (h : RowT T) : ∀ f k, k < T.length → (T.drop k).map kt = (namF T f k).map (fun x => (3, x)) ++ (T.drop (k + (namF T f k).length)).map kt ∧ k + (namF T f k).length < T.length
  | 0, k, hk => by simp [namF, hk]
  | f + 1, k, hk => by
    rw [namF]
    by_cases h3 : tkd T k = 3
    · rw [if_pos h3]
      have hl := h.less (k := k) (Or.inl (by omega))
      obtain ⟨a, b⟩ := h.names f (k + 1) hl.2
      rw [drop_kt hk, a, h3, List.length_cons, show k + ((namF T f (k + 1)).length + 1) = k + 1 + (namF T f (k + 1)).length by omega]
      exact ⟨rfl, b⟩
    · rw [if_neg h3]
      exact ⟨by simp, by simpa using hk⟩
theorem RowT.locs {T : List Tk} (h : RowT T) : ∀ f k, k < T.length → (T.drop k).map kt = (locF T f k).flatMap (fun x => [(6, semT), (3, x)]) ++ (T.drop (k + 2 * (locF T f k).length)).map kt ∧ k + 2 * (locF T f k).length < T.length
  | 0, k, hk => by simp [locF, hk]
  | f + 1, k, hk => by
    rw [locF]
    by_cases h3 : ttx T k = semT ∧ tkd T (k + 1) = 3
    · rw [if_pos h3]
      have h6 := h.six (k := k) (Or.inr h3.1)
      have hl := h.less (k := k) (Or.inl (by omega))
      have hl2 := h.less (k := k + 1) (Or.inl (by omega))
      obtain ⟨a, b⟩ := h.locs f (k + 2) hl2.2
      rw [drop_kt hk, drop_kt hl.2, a, h3.1, h3.2, h6, List.length_cons, show k + 2 * ((locF T f (k + 2)).length + 1) = k + 2 + 2 * (locF T f (k + 2)).length by omega]
      exact ⟨rfl, b⟩
    · rw [if_neg h3]
      exact ⟨by simp, by simpa using hk⟩
def isHd (h : Hd) (r : Bool) (ns : List ByteArray) : Prop := (r = false → h.rs = noT) ∧ ((ns = [h.nm] ∧ h.lf = noT ∧ h.rt = noT) ∨ (ns = [h.nm, h.rt] ∧ h.lf = noT) ∨ ns = [h.lf, h.nm, h.rt])
def rowOf (h : Hd) (r : Bool) (ns : List ByteArray) : List (Int × ByteArray) := (if r = true then [(3, h.rs), (6, arwT)] else []) ++ (ns.map (fun x => (3, x)) ++ h.ls.flatMap (fun x => [(6, semT), (3, x)]))
theorem head_row {T : List Tk} (hT : RowT T) {h : Hd} (hh : headF T = some h) : ∃ r ns, T.map kt = rowOf h r ns ++ [(0, noT)] ∧ isHd h r ns := by
  have hpos := hT.endT.pos
  have hK : resK T < T.length ∧ T.map kt = (if decide (tkd T 0 = 3 ∧ ttx T 1 = arwT) = true then [(3, resT T), (6, arwT)] else []) ++ (T.drop (resK T)).map kt := by
    unfold resK resT
    by_cases hc : tkd T 0 = 3 ∧ ttx T 1 = arwT
    · rw [if_pos hc, if_pos hc, if_pos (decide_eq_true hc)]
      have h6 := hT.six (k := 1) (Or.inl hc.2)
      have l0 := hT.less (k := 0) (Or.inl (by omega))
      have l1 := hT.less (k := 1) (Or.inl (by omega))
      have e0 := drop_kt l0.1
      have e1 := drop_kt l1.1
      rw [List.drop_zero] at e0
      refine ⟨l1.2, ?_⟩
      rw [e0, e1, hc.1, hc.2, h6]
      rfl
    · rw [if_neg hc, if_neg (by rw [decide_eq_false hc]; exact Bool.noConfusion)]
      exact ⟨hpos, by simp⟩
  obtain ⟨hK1, hK2⟩ := hK
  obtain ⟨n1, n2⟩ := hT.names T.length (resK T) hK1
  obtain ⟨l1, l2⟩ := hT.locs T.length (resK T + (namF T T.length (resK T)).length) n2
  unfold headF at hh
  by_cases hc : ¬ tkd T (endK T) = 0 ∨ 32 < (localsOfF T).length
  · rw [if_pos hc] at hh
    exact nomatch hh
  rw [if_neg hc] at hh
  have hz : tkd T (endK T) = 0 := Decidable.byContradiction (fun g => hc (Or.inl g))
  have hlast : (T.drop (endK T)).map kt = [(0, noT)] := by
    obtain ⟨l, p, e, hl⟩ := hT.ends
    have he : endK T < T.length := l2
    have hlen : T.length = l.length + 1 := by rw [e]; simp
    have : endK T = l.length := by
      rcases Nat.lt_or_ge (endK T) l.length with g | g
      · exfalso
        rw [← (tk_at he).1] at hz
        have hm : T[endK T] ∈ l := by
          have h2 : T[endK T]? = l[endK T]? := by
            have this : ∀ n : Nat, T[n]? = (l ++ [(0, ⟨#[]⟩, p, 0)])[n]? := fun n => by rw [← e]
            rw [this, List.getElem?_append_left g]
          rw [List.getElem?_eq_getElem he, List.getElem?_eq_getElem g] at h2
          rw [Option.some.inj h2]
          exact List.getElem_mem g
        exact hl _ hm hz
      · omega
    rw [this]
    have e2 : T.drop l.length = [(0, ⟨#[]⟩, p, 0)] := by
      have := congrArg (List.drop l.length) e
      rw [List.drop_left] at this
      exact this
    rw [e2]
    rfl
  have hrow : T.map kt = (if decide (tkd T 0 = 3 ∧ ttx T 1 = arwT) = true then [(3, resT T), (6, arwT)] else []) ++ ((namesOfF T).map (fun x => (3, x)) ++ (localsOfF T).flatMap (fun x => [(6, semT), (3, x)])) ++ [(0, noT)] := by
    rw [hK2, n1, l1, ← hlast, List.append_assoc, List.append_assoc]
    rfl
  have hres : decide (tkd T 0 = 3 ∧ ttx T 1 = arwT) = false → resT T = noT := fun hd => by
    unfold resT
    rw [if_neg (of_decide_eq_false hd)]
  have hhd : hdOf (resT T) (localsOfF T) (namesOfF T) = some h := by
    unfold pickH at hh
    split at hh
    · rename_i h' e
      split at hh
      · rw [e, hh]
      · exact nomatch hh
    · exact nomatch hh
  refine ⟨decide (tkd T 0 = 3 ∧ ttx T 1 = arwT), namesOfF T, ?_⟩
  unfold isHd rowOf
  generalize decide (tkd T 0 = 3 ∧ ttx T 1 = arwT) = r at *
  generalize namesOfF T = ns at *
  match ns, hhd, hrow with
  | [], hhd, hrow => exact nomatch hhd
  | [a], hhd, hrow =>
    obtain rfl := Option.some.inj hhd
    exact ⟨hrow, hres, Or.inl ⟨rfl, rfl, rfl⟩⟩
  | [a, b], hhd, hrow =>
    obtain rfl := Option.some.inj hhd
    exact ⟨hrow, hres, Or.inr (Or.inl ⟨rfl, rfl⟩)⟩
  | [a, b, c], hhd, hrow =>
    obtain rfl := Option.some.inj hhd
    exact ⟨hrow, hres, Or.inr (Or.inr rfl)⟩
  | _ :: _ :: _ :: _ :: _, hhd, hrow => exact nomatch hhd

/-- What a header says does not hang on its tokens' places. -/
theorem tk_map {T T' : List Tk} (e : T.map kt = T'.map kt) (k : Nat) : tkd T k = tkd T' k ∧ ttx T k = ttx T' k := by
  have h := congrArg (fun l : List (Int × ByteArray) => l[k]?) e
  simp only [List.getElem?_map] at h
  unfold tkd ttx
  rw [List.getD_eq_getElem?_getD, List.getD_eq_getElem?_getD]
  cases h1 : T[k]? with
  | none => cases h2 : T'[k]? with
    | none => exact ⟨rfl, rfl⟩
    | some y => rw [h1, h2] at h; simp at h
  | some x => cases h2 : T'[k]? with
    | none => rw [h1, h2] at h; simp at h
    | some y =>
      rw [h1, h2] at h
      have := Option.some.inj h
      unfold kt at this
      exact ⟨show x.1 = y.1 from (Prod.mk.inj this).1, show x.2.1 = y.2.1 from (Prod.mk.inj this).2⟩
theorem headF_map {T T' : List Tk} (e : T.map kt = T'.map kt) : headF T = headF T' := by
  have hl : T.length = T'.length := by
    have := congrArg List.length e
    rw [List.length_map, List.length_map] at this
    exact this
  have hk : tkd T = tkd T' := funext (fun k => (tk_map e k).1)
  have hx : ttx T = ttx T' := funext (fun k => (tk_map e k).2)
  have hn : namF T = namF T' := by
    funext f
    induction f with
    | zero => funext k; rfl
    | succ f ih => funext k; unfold namF; rw [hk, hx, ih]
  have hlo : locF T = locF T' := by
    funext f
    induction f with
    | zero => funext k; rfl
    | succ f ih => funext k; unfold locF; rw [hk, hx, ih]
  unfold headF endK localsOfF namesOfF resK resT
  rw [hk, hx, hn, hlo, hl]

/-- A header as it is written. -/
def prH (h : Hd) : List UInt8 := (if h.rs = noT then [] else h.rs.data.toList ++ arwT.data.toList) ++ ((if h.lf = noT then [] else h.lf.data.toList ++ [32]) ++ (h.nm.data.toList ++ ((if h.rt = noT then [] else [32] ++ h.rt.data.toList) ++ h.ls.flatMap (fun x => semT.data.toList ++ x.data.toList))))
theorem laid_locs : ∀ (ls : List ByteArray) (b : Bool), laid b (ls.flatMap (fun x => [(6, semT), (3, x)])) = ls.flatMap (fun x => semT.data.toList ++ x.data.toList)
  | [], b => rfl
  | x :: ls, b => by
    rw [List.flatMap_cons, List.flatMap_cons, List.cons_append, List.cons_append, List.nil_append]
    unfold laid laid
    rw [if_neg (by simp), if_neg (by simp), laid_locs ls]
    simp
theorem laid_row {h : Hd} {r : Bool} {ns : List ByteArray} (hh : isHd h r ns) (hne : ∀ x, (3, x) ∈ rowOf h r ns → ¬ x = noT) : laid false (rowOf h r ns) = prH h := by
  obtain ⟨hr, hn⟩ := hh
  have hmid : ∀ b : Bool, b = false → laid b (ns.map (fun x => (3, x)) ++ h.ls.flatMap (fun x => [(6, semT), (3, x)])) = (if h.lf = noT then [] else h.lf.data.toList ++ [32]) ++ (h.nm.data.toList ++ ((if h.rt = noT then [] else [32] ++ h.rt.data.toList) ++ h.ls.flatMap (fun x => semT.data.toList ++ x.data.toList))) := fun b hb => by
    subst hb
    rcases hn with ⟨rfl, e1, e2⟩ | ⟨rfl, e1⟩ | rfl
    · rw [if_pos e1, if_pos e2]
      simp [laid, laid_locs]
    · have hx : ¬ h.rt = noT := hne _ (by unfold rowOf; simp)
      rw [if_pos e1, if_neg hx]
      simp [laid, laid_locs]
    · have hx : ¬ h.rt = noT := hne _ (by unfold rowOf; simp)
      have hy : ¬ h.lf = noT := hne _ (by unfold rowOf; simp)
      rw [if_neg hy, if_neg hx]
      simp [laid, laid_locs]
  unfold rowOf prH
  cases r with
  | false =>
    rw [if_neg Bool.noConfusion, if_pos (hr rfl), List.nil_append, List.nil_append]
    exact hmid false rfl
  | true =>
    have hx : ¬ h.rs = noT := hne _ (by unfold rowOf; simp)
    rw [if_pos rfl, if_neg hx, List.cons_append, List.cons_append, List.nil_append]
    unfold laid laid
    rw [if_neg (by simp), if_neg (by simp), show (decide ((6 : Int) = 3)) = false from rfl, hmid false rfl]
    simp
theorem inm_ok {c : Int} (h : inm c = true) : okRune c := by
  simp [inm, bn, lt, dg] at h
  unfold okRune
  omega
theorem laidC_ok : ∀ (L : List (Int × List Int)), (∀ p ∈ L, GoodP p) → ∀ b, ∀ c ∈ laidC b L, okRune c
  | [], _, b, c, hc => absurd hc List.not_mem_nil
  | (k, x) :: r, hg, b, c, hc => by
    unfold laidC at hc
    rcases List.mem_append.1 hc with hc | hc
    · split at hc
      · rw [List.mem_singleton.1 hc]
        unfold okRune
        omega
      · exact absurd hc List.not_mem_nil
    · rcases List.mem_append.1 hc with hc | hc
      · rcases hg _ (List.mem_cons_self ..) with ⟨_, _, _, _, h4⟩ | ⟨_, h4⟩
        · obtain ⟨m, hm, e⟩ := List.mem_iff_getElem.1 hc
          have := h4 m hm
          simp only at this
          rw [List.getD_eq_getElem?_getD, List.getElem?_eq_getElem hm, Option.getD_some, e] at this
          exact inm_ok this
        · simp only at h4
          rcases h4 with rfl | rfl
          · rw [List.mem_singleton.1 hc]
            unfold okRune
            omega
          · rw [List.mem_singleton.1 hc]
            unfold okRune
            omega
      · exact laidC_ok r (fun p hp => hg p (List.mem_cons_of_mem _ hp)) _ c hc
/-- A header written anew says the same. -/
theorem header_again {ne : ByteArray → Int} {s t : ByteArray} {h : Hd} (hh : headerF ne s = some h) (ht : t.data.toList = prH h) : headerF ne t = some h ∧ t.size ≤ 1024 := by
  unfold headerF at hh
  by_cases h0 : (allF ne s).2.1 = 0
  case neg => rw [if_neg h0] at hh; exact nomatch hh
  rw [if_pos h0] at hh
  obtain ⟨a1, a2, a3, a4⟩ := allF_ok h0
  have hok : ∀ c ∈ (scanR s s.size 0 []).1, okRune c := scanR_ok s s.size 0 [] (by simp)
  have hsz := scan_size s s.size 0 [] (Nat.zero_le _) (by simp) a2
  have her := itemsF_er ne _ _ _ a4
  have hp := passTo_le (cs := (scanR s s.size 0 []).1) (Nat.zero_le _)
  have hT : RowT (allF ne s).1 := by
    rw [a3]
    exact rowT_of hok _ _ hp.2 (by omega) her
  obtain ⟨r, ns, e, hd⟩ := head_row hT hh
  have hall : ∀ x ∈ (allF ne s).1, x.1 = 3 ∨ x.2.1 = arwT ∨ x.2.1 = semT ∨ x.1 = 0 := fun x hx => by
    have hm : kt x ∈ rowOf h r ns ++ [(0, noT)] := by
      rw [← e]
      exact List.mem_map_of_mem hx
    unfold rowOf kt at hm
    simp only [List.mem_append, List.mem_map, List.mem_flatMap, List.mem_singleton, List.mem_cons, List.not_mem_nil, or_false] at hm
    rcases hm with (hm | (⟨a, _, hm⟩ | ⟨a, _, hm⟩)) | hm
    · split at hm
      · simp only [List.mem_cons, List.not_mem_nil, or_false] at hm
        rcases hm with hm | hm
        · exact Or.inl (congrArg Prod.fst hm)
        · exact Or.inr (Or.inl (congrArg Prod.snd hm))
      · exact absurd hm List.not_mem_nil
    · exact Or.inl (congrArg Prod.fst hm).symm
    · rcases hm with hm | hm
      · exact Or.inr (Or.inr (Or.inl (congrArg Prod.snd hm)))
      · exact Or.inl (congrArg Prod.fst hm)
    · exact Or.inr (Or.inr (Or.inr (congrArg Prod.fst hm)))
  have hsize := laid_size (ne := ne) (cs := (scanR s s.size 0 []).1) ((scanR s s.size 0 []).1.length + 1) (passTo (scanR s s.size 0 []).1 0) hp.2
  rw [a3] at hall e hh
  obtain ⟨L, hL, eL⟩ := toks_good hok _ _ hp.2 (by omega) her hall
  unfold items at e hh
  rw [e] at eL hsize
  have eL2 : rowOf h r ns = L.map inB := List.append_cancel_right eL
  have hpr : laid false (rowOf h r ns) = prH h := laid_row hd (fun x hx => by
    rw [eL2] at hx
    obtain ⟨p, hp1, hp2⟩ := List.mem_map.1 hx
    unfold inB at hp2
    have e1 := congrArg Prod.fst hp2
    have e2 := congrArg Prod.snd hp2
    simp only at e1 e2
    rcases hL p hp1 with ⟨_, _, h3, _⟩ | ⟨h3, _⟩
    · intro hx0
      have := nb_pos (l := p.2) (by intro e0; rw [e0] at h3; simp at h3)
      unfold nb at this
      rw [e2, hx0] at this
      exact absurd this (by decide)
    · omega)
  have hend : ∀ (l : List (Int × ByteArray)) (b : Bool), laid b (l ++ [(0, noT)]) = laid b l := fun l => by
    induction l with
    | nil => intro b; simp [laid, noT]
    | cons p l ih =>
      intro b
      obtain ⟨k, x⟩ := p
      rw [List.cons_append]
      unfold laid
      rw [ih]
  rw [hend, hpr] at hsize
  have htx : t = runesBytes (laidC false L) := by
    apply ByteArray.ext
    apply Array.toList_inj.1
    rw [ht, laidC_bytes, ← eL2, hpr]
  have hts : t.size ≤ 1024 := by
    have : t.size = t.data.toList.length := Array.length_toList.symm
    have hless := nb_less (cs := (scanR s s.size 0 []).1) (Nat.zero_le (passTo (scanR s s.size 0 []).1 0))
    rw [List.drop_zero] at hless
    unfold nb at hless
    rw [this, ht]
    unfold nb at hsize
    have h8 : (runesBytes []).data.toList.length = 0 := rfl
    omega
  have hokL : ∀ c ∈ laidC false L, okRune c := laidC_ok L hL false
  have hscan := scan_back _ hokL
  rw [← htx] at hscan
  obtain ⟨r1, r2⟩ := relex (ne := ne) L [] false ((laidC false L).length + 1) hL (by
    have := passTo_le (cs := laidC false L) (Nat.zero_le _)
    simp only [List.nil_append, List.length_nil]
    omega)
  rw [List.nil_append, List.length_nil] at r1 r2
  have ha : allF ne t = (items ne (laidC false L), 0, 0) := by
    unfold allF
    rw [if_neg (by omega), hscan]
    simp only
    rw [if_neg (by simp), if_pos (show (lastEr (items ne (laidC false L))).1 = 0 from lastEr_all r2)]
  refine ⟨?_, hts⟩
  unfold headerF
  rw [ha, if_pos rfl, ← hh]
  apply headF_map
  unfold items
  rw [r1, e, eL2]
theorem pr_size {ne : ByteArray → Int} {s : ByteArray} {h : Hd} (hh : headerF ne s = some h) : (prH h).length ≤ 1024 := by
  have := (header_again (t := ⟨(prH h).toArray⟩) hh rfl).2
  have e : (⟨(prH h).toArray⟩ : ByteArray).size = (prH h).length := rfl
  omega
end Go.Proofs.YtafaafdbfdeeoaaGreatDoor

/- define.Same of two headers that say the same; define.Niladic. -/
namespace Go.Proofs.YtafaafdbfdeeoaaGreatDoor
set_option linter.unusedVariables false
set_option linter.unusedSimpArgs false
open Go.RowKit

set_option maxRecDepth 100000 in
set_option maxHeartbeats 8000000 in
theorem same_fn {B B' C : Nat} {w : World} {nm rs lf rt : ByteArray} {lo ln : List ByteArray} {a a' b : Option Addr} {c c' d : Nat} (h1 : RdS B w (.slice a lo.length c) lo) (h2 : RdS B' w (.slice a' lo.length c') lo) (h3 : RdS C w (.slice b ln.length d) ln) (hB : B ≤ w.heap.size) (hB' : B' ≤ w.heap.size) (hC : C ≤ w.heap.size) :
    Calls Tryz.prog 13 #[.agg (fnV nm rs lf rt (.slice a lo.length c) (.slice none 0 0) (.slice none 0 0) (.slice b ln.length d) false), .agg (fnV nm rs lf rt (.slice a' lo.length c') (.slice none 0 0) (.slice none 0 0) (.slice b ln.length d) false)] w fun e w' => e = .returned (.bool true) ∧ Below w.heap.size w w' := by
  have k0 := below_alloc w (.cells (fnV nm rs lf rt (.slice a lo.length c) (.slice none 0 0) (.slice none 0 0) (.slice b ln.length d) false) 25)
  have F0 := boxA_new w (fnV nm rs lf rt (.slice a lo.length c) (.slice none 0 0) (.slice none 0 0) (.slice b ln.length d) false) 25
  generalize hW0 : w.alloc (.cells (fnV nm rs lf rt (.slice a lo.length c) (.slice none 0 0) (.slice none 0 0) (.slice b ln.length d) false) 25) = w0 at *
  have s0 : w0.heap.size = w.heap.size + 1 := by rw [← hW0]; simp
  have k1 := below_alloc w0 (.cells (fnV nm rs lf rt (.slice a' lo.length c') (.slice none 0 0) (.slice none 0 0) (.slice b ln.length d) false) 25)
  have G0 := boxA_new w0 (fnV nm rs lf rt (.slice a' lo.length c') (.slice none 0 0) (.slice none 0 0) (.slice b ln.length d) false) 25
  have F1 := F0.below k1 (by omega)
  generalize hW1 : w0.alloc (.cells (fnV nm rs lf rt (.slice a' lo.length c') (.slice none 0 0) (.slice none 0 0) (.slice b ln.length d) false) 25) = w1 at *
  have s1 : w1.heap.size = w.heap.size + 2 := by rw [← hW1]; simp; omega
  have kk : Below w.heap.size w w1 := k0.trans (k1.mono (by omega))
  have HC1 : Hid (∀ W, Below w1.heap.size w1 W → Calls Tryz.prog 30 #[.slice a lo.length c, .slice a' lo.length c'] W _) := fun W kW => equal_strs ((h1.below kk hB).below kW (by omega)) ((h2.below kk hB').below kW (by omega))
  have HC3 : Hid (∀ W, Below w1.heap.size w1 W → Calls Tryz.prog 30 #[.slice b ln.length d, .slice b ln.length d] W _) := fun W kW => equal_strs ((h3.below kk hC).below kW (by omega)) ((h3.below kk hC).below kW (by omega))
  have HC0 : Hid (∀ W, Calls Tryz.prog 30 #[.slice none 0 0, .slice none 0 0] W _) := fun W => equal_strs (ss := []) (RdS.nil 0 W) (RdS.nil 0 W)
  clear h1 h2 h3 k0 F0
  have G1 := G0
  rw [s0] at G1
  clear G0 k1
  have y0 := F1.cell 0 rfl
  have y1 := F1.cell 1 rfl
  have y2 := F1.cell 2 rfl
  have y3 := F1.cell 3 rfl
  have y4 := F1.cell 4 rfl
  have y5 := F1.cell 5 rfl
  have y6 := F1.cell 6 rfl
  have y7 := F1.cell 7 rfl
  have y8 := F1.cell 8 rfl
  have z0 := G1.cell 0 rfl
  have z1 := G1.cell 1 rfl
  have z2 := G1.cell 2 rfl
  have z3 := G1.cell 3 rfl
  have z4 := G1.cell 4 rfl
  have z5 := G1.cell 5 rfl
  have z6 := G1.cell 6 rfl
  have z7 := G1.cell 7 rfl
  have z8 := G1.cell 8 rfl
  go_enter Tryz.func13, Tryz.ntmps13
  go_wp2_with fail
  refine (HC1.out w1 (Below.refl _ _)).mono ?_
  rintro e w2 ⟨rfl, q2, h2⟩
  have k2 : Below w1.heap.size w1 w2 := by rw [h2]; exact below_drewN' (Below.refl _ _) q2
  have F2 := F1.below k2 (by omega)
  have G2 := G1.below k2 (by omega)
  clear h2 hW1 hW0 y0 y1 y2 y3 y4 y5 y6 y7 y8 z0 z1 z2 z3 z4 z5 z6 z7 z8
  have y5 := F2.cell 5 rfl
  have z5 := G2.cell 5 rfl
  go_wp2_with fail
  refine (HC0.out w2).mono ?_
  rintro e w3 ⟨rfl, q3, h3⟩
  have k3 : Below w1.heap.size w1 w3 := by rw [h3]; exact below_drewN' k2 q3
  have F3 := F1.below k3 (by omega)
  have G3 := G1.below k3 (by omega)
  clear h3 y5 z5 F2 G2 k2
  have y6 := F3.cell 6 rfl
  have z6 := G3.cell 6 rfl
  go_wp2_with fail
  refine (equal_ints0 none none 0 0 w3).mono ?_
  rintro e w4 ⟨rfl, h4⟩
  obtain rfl := h4
  have y7 := F3.cell 7 rfl
  have z7 := G3.cell 7 rfl
  clear y6 z6
  go_wp2_with fail
  refine (HC3.out w3 k3).mono ?_
  rintro e w5 ⟨rfl, q5, h5⟩
  have k5 : Below w1.heap.size w1 w5 := by rw [h5]; exact below_drewN' k3 q5
  have g5 : Below w.heap.size w w5 := kk.trans (k5.mono (by omega))
  clear h5
  go_wp2
  go_ret
  exact ⟨rfl, g5⟩
set_option maxRecDepth 100000 in
theorem niladic_fn (w : World) (nm rs lf rt : ByteArray) (v1 v2 v3 v4 : Value) :
    Calls Tryz.prog 15 #[.agg (fnV nm rs lf rt v1 v2 v3 v4 false)] w fun e w' => e = .returned (.bool (decide (rt = noT))) ∧ Below w.heap.size w w' := by
  have k0 := below_alloc w (.cells (fnV nm rs lf rt v1 v2 v3 v4 false) 25)
  have h := (isNo_list rt).1
  by_cases hx : rt = noT
  · have e0 : decide (rt = noT) = true := decide_eq_true hx
    rw [e0] at h ⊢
    have h1 := List.isEmpty_iff.1 h
    clear e0 hx
    go_enter Tryz.func15, Tryz.ntmps15
    go_wp2
    go_ret
    exact ⟨rfl, k0⟩
  · have e0 : decide (rt = noT) = false := decide_eq_false hx
    rw [e0] at h ⊢
    have h1 : ¬ rt.toList = [] := fun e => by rw [e] at h; exact Bool.noConfusion h
    clear e0 hx
    go_enter Tryz.func15, Tryz.ntmps15
    go_wp2
    go_ret
    exact ⟨rfl, k0⟩
end Go.Proofs.YtafaafdbfdeeoaaGreatDoor
