/- Plain facts on decimal digits: what number they say; how the digits of a number lie in groups of nine. No program is named. -/
import Derived.Lib.ItoaNum
import Derived.Test.YtibciilhfpgjjadDoorPrint1
namespace Go.Proofs.YtibciilhfpgjjadDoor
set_option linter.unusedVariables false
set_option linter.unusedSimpArgs false
open Go.Lib

/-- The number that digits say. -/
def dval (l : List UInt8) : Nat := l.foldl (fun a b => a * 10 + (b.toNat - 48)) 0
/-- Each one a digit. -/
def digs (l : List UInt8) : Prop := ∀ b ∈ l, 48 ≤ b.toNat ∧ b.toNat ≤ 57

theorem dval_from (l : List UInt8) (a : Nat) : l.foldl (fun a b => a * 10 + (b.toNat - 48)) a = a * 10 ^ l.length + dval l := by
  induction l generalizing a with
  | nil => simp [dval]
  | cons b l ih =>
    unfold dval
    simp only [List.foldl_cons, List.length_cons]
    rw [ih, ih (0 * 10 + (b.toNat - 48)), Nat.pow_succ]
    simp only [Nat.zero_mul, Nat.zero_add, Nat.add_mul, Nat.mul_assoc, Nat.mul_comm 10]
    omega
theorem dval_append (k l : List UInt8) : dval (k ++ l) = dval k * 10 ^ l.length + dval l := by
  show (k ++ l).foldl _ 0 = _
  rw [List.foldl_append, dval_from]; rfl
theorem dval_snoc (l : List UInt8) (b : UInt8) : dval (l ++ [b]) = dval l * 10 + (b.toNat - 48) := by
  rw [dval_append]; simp [dval]
theorem dval_nil : dval [] = 0 := rfl

theorem digit_toNat (d : Nat) (h : d < 10) : (UInt8.ofNat (48 + d)).toNat = 48 + d := by
  rw [UInt8.toNat_ofNat']; omega

theorem dval_decDigits (u : Nat) : dval (decDigits u) = u ∧ digs (decDigits u) ∧ 0 < (decDigits u).length := by
  induction u using Nat.strongRecOn with
  | _ u ih =>
    by_cases h : u < 10
    · rw [decDigits, dif_pos h]
      refine ⟨?_, ?_, by simp⟩
      · simp only [dval, List.foldl_cons, List.foldl_nil, digit_toNat u h]; omega
      · intro b hb
        rw [List.mem_singleton] at hb; subst hb
        rw [digit_toNat u h]; omega
    · rw [decDigits, dif_neg h]
      obtain ⟨h1, h2, h3⟩ := ih (u / 10) (by omega)
      refine ⟨?_, ?_, by simp⟩
      · rw [dval_snoc, h1, digit_toNat _ (by omega)]; omega
      · intro b hb
        rw [List.mem_append] at hb
        rcases hb with hb | hb
        · exact h2 b hb
        · rw [List.mem_singleton] at hb; subst hb
          rw [digit_toNat _ (by omega)]; omega

/-- The k lowest digits of a number. -/
def low (k g : Nat) : List UInt8 := match k with
  | 0 => []
  | k + 1 => low k (g / 10) ++ [UInt8.ofNat (48 + g % 10)]
theorem low_length (k g : Nat) : (low k g).length = k := by
  induction k generalizing g with
  | zero => rfl
  | succ k ih => simp [low, ih]
/-- A number's digits: those of its upper part, and the k lowest. -/
theorem decDigits_low (k h g : Nat) (hh : 1 ≤ h) : decDigits (h * 10 ^ k + g % 10 ^ k) = decDigits h ++ low k g := by
  induction k generalizing g with
  | zero => simp [low, Nat.mod_one]
  | succ k ih =>
    have hp : 1 ≤ 10 ^ k := Nat.one_le_pow _ _ (by decide)
    have hm : g % 10 ^ (k + 1) = 10 * (g / 10 % 10 ^ k) + g % 10 := by
      rw [Nat.pow_succ, Nat.mul_comm, Nat.mod_mul]; omega
    have e1 : (h * 10 ^ (k + 1) + g % 10 ^ (k + 1)) / 10 = h * 10 ^ k + g / 10 % 10 ^ k := by
      rw [hm, Nat.pow_succ, ← Nat.mul_assoc]; omega
    have e2 : (h * 10 ^ (k + 1) + g % 10 ^ (k + 1)) % 10 = g % 10 := by
      rw [hm, Nat.pow_succ, ← Nat.mul_assoc]; omega
    have hge : ¬ h * 10 ^ (k + 1) + g % 10 ^ (k + 1) < 10 := by
      rw [Nat.pow_succ, ← Nat.mul_assoc]
      have : 1 ≤ h * 10 ^ k := Nat.mul_le_mul hh hp
      omega
    rw [decDigits, dif_neg hge, e1, e2, ih (g / 10)]
    show _ = decDigits h ++ (low k (g / 10) ++ [_])
    rw [List.append_assoc]
theorem low_zero (k : Nat) : low k 0 = List.replicate k 48 := by
  induction k with
  | zero => rfl
  | succ k ih => simp only [low, ih, Nat.zero_div]; rw [List.replicate_succ']; rfl
/-- The k lowest digits of a number that has no more: noughts, and its digits. -/
theorem low_pad (k g : Nat) (hk : 1 ≤ k) (hg : g < 10 ^ k) : low k g = List.replicate (k - (decDigits g).length) 48 ++ decDigits g := by
  induction k generalizing g with
  | zero => omega
  | succ k ih =>
    by_cases h : g < 10
    · rw [decDigits, dif_pos h]
      simp only [low]
      rw [Nat.div_eq_of_lt h, Nat.mod_eq_of_lt h, low_zero]
      rfl
    · rw [decDigits, dif_neg h]
      simp only [low]
      have hk1 : 1 ≤ k := by
        by_cases h0 : k = 0
        · subst h0; simp at hg; omega
        · omega
      rw [ih (g / 10) hk1 (by rw [Nat.pow_succ] at hg; omega), List.append_assoc]
      congr 2
      simp
theorem decDigits_le (k g : Nat) (hk : 1 ≤ k) (hg : g < 10 ^ k) : (decDigits g).length ≤ k := by
  have h1 := low_length k g
  rw [low_pad k g hk hg, List.length_append, List.length_replicate] at h1
  omega
end Go.Proofs.YtibciilhfpgjjadDoor

/- strings.Repeat of a nought, at most eight times; strings.HasPrefix. -/
namespace Go.Proofs.YtibciilhfpgjjadDoor
set_option linter.unusedVariables false
set_option linter.unusedSimpArgs false
open Go.RowKit

theorem hasPrefixI (s t : ByteArray) (r : Bool) (w : World) (hst : t.size ≤ s.size) (hb : s.size ≤ 1000000) (hr : ((s.extract 0 t.size).toList == t.toList) = r) : Calls Tryd.prog 100 #[.string s, .string t] w fun e w' => e = .returned (.bool r) ∧ w = w' := by
  subst hr
  go_enter Tryd.func100, Tryd.ntmps100
  go_wp2
  go_ret
  exact ⟨rfl, rfl⟩

theorem hasPrefix (s t : ByteArray) (r : Bool) (w : World) (hst : t.size ≤ s.size) (hb : s.size ≤ 1000000) (hr : ((s.extract 0 t.size).toList == t.toList) = r) : Calls Tryd.prog 83 #[.string s, .string t] w fun e w' => e = .returned (.bool r) ∧ w = w' := by
  go_enter Tryd.func83, Tryd.ntmps83
  go_wp2_with fail
  refine (hasPrefixI s t r w hst hb hr).mono ?_
  rintro e w' ⟨rfl, rfl⟩
  go_wp2
  go_ret
  exact ⟨rfl, rfl⟩

def noughts (k : Nat) : ByteArray := ⟨(List.replicate k (48 : UInt8)).toArray⟩

theorem noughts_of (k : Nat) (hk : k ≤ 8) : ByteArray.extract ⟨#[48, 48, 48, 48, 48, 48, 48, 48, 48, 48, 48, 48, 48, 48, 48, 48, 48, 48, 48, 48, 48, 48, 48, 48, 48, 48, 48, 48, 48, 48, 48, 48, 48, 48, 48, 48, 48, 48, 48, 48, 48, 48, 48, 48, 48, 48, 48, 48, 48, 48, 48, 48, 48, 48, 48, 48, 48, 48, 48, 48, 48, 48, 48, 48]⟩ 0 k = noughts k := by
  have : ∀ k : Fin 9, ByteArray.extract ⟨#[48, 48, 48, 48, 48, 48, 48, 48, 48, 48, 48, 48, 48, 48, 48, 48, 48, 48, 48, 48, 48, 48, 48, 48, 48, 48, 48, 48, 48, 48, 48, 48, 48, 48, 48, 48, 48, 48, 48, 48, 48, 48, 48, 48, 48, 48, 48, 48, 48, 48, 48, 48, 48, 48, 48, 48, 48, 48, 48, 48, 48, 48, 48, 48]⟩ 0 k.val = noughts k.val := by decide +kernel
  exact this ⟨k, by omega⟩

set_option maxRecDepth 100000 in
set_option maxHeartbeats 1600000 in
theorem repeat_more (k : Nat) (h2 : 2 ≤ k) (h8 : k ≤ 8) (w : World) : Calls Tryd.prog 65 #[.string ⟨#[48]⟩, .int .i64 k] w fun e w' => e = .returned (.string (noughts k)) ∧ w = w' := by
  have e1 : 1 * k / 18446744073709551616 = 0 := by omega
  have e2 : 1 * k % 18446744073709551616 = k := by omega
  go_enter Tryd.func65, Tryd.ntmps65
  go_wp2_with fail
  refine (Tryd.bits_Mul 1 k (by omega) (by omega) _).mono ?_
  rintro e w' ⟨rfl, hw⟩
  have hw := hw.symm
  subst hw
  rw [e1, e2]
  go_wp2_with fail
  refine (hasPrefix _ _ false _ (by decide) (by decide) (by decide +kernel)).mono ?_
  rintro e w' ⟨rfl, rfl⟩
  go_wp2_with fail
  refine (hasPrefix _ _ false _ (by decide) (by decide) (by decide +kernel)).mono ?_
  rintro e w' ⟨rfl, rfl⟩
  go_wp2_with fail
  refine (hasPrefix _ _ true _ (by decide) (by decide) (by decide +kernel)).mono ?_
  rintro e w' ⟨rfl, rfl⟩
  go_wp2
  rw [noughts_of k h8]
  go_ret
  exact ⟨rfl, rfl⟩

set_option maxRecDepth 100000 in
theorem repeat_any (k : Nat) (h8 : k ≤ 8) (w : World) : Calls Tryd.prog 65 #[.string ⟨#[48]⟩, .int .i64 k] w fun e w' => e = .returned (.string (noughts k)) ∧ w = w' := by
  by_cases h2 : 2 ≤ k
  · exact repeat_more k h2 h8 w
  · match k, h2 with
    | 0, _ =>
      go_enter Tryd.func65, Tryd.ntmps65
      go_wp2
      go_ret
      exact ⟨rfl, rfl⟩
    | k + 2, h => omega
    | 1, _ =>
      go_enter Tryd.func65, Tryd.ntmps65
      go_wp2
      go_ret
      exact ⟨rfl, rfl⟩
end Go.Proofs.YtibciilhfpgjjadDoor

/- nat.Print at whatever number: its decimal digits. -/
namespace Go.Proofs.YtibciilhfpgjjadDoor
set_option linter.unusedVariables false
set_option linter.unusedSimpArgs false
open Go.RowKit

theorem val9_drop (gs : List Int) (i : Nat) (hi : i < gs.length) : val9 (gs.drop i) = gs.getD i 0 + 1000000000 * val9 (gs.drop (i + 1)) := by
  rw [List.drop_eq_getElem_cons hi]
  simp [val9, hi]
theorem val9_drop_pos {gs : List Int} (h : lim9 gs) (hl : ¬ gs.getD (gs.length - 1) 0 = 0) (i : Nat) (hi : i < gs.length) : 1 ≤ val9 (gs.drop i) := by
  have h1 := val9_low (gs := gs.drop i) (fun x hx => h x (List.mem_of_mem_drop hx)) (by intro e; have := congrArg List.length e; simp at this; omega) (by
    have e : (gs.drop i).getD ((gs.drop i).length - 1) 0 = gs.getD (gs.length - 1) 0 := by
      simp only [List.getD, List.getElem?_drop, List.length_drop]
      congr 2; omega
    rw [e]; exact hl)
  have := pw9_pos ((gs.drop i).length - 1)
  omega

theorem byteCells_append (k l : List UInt8) : Lib.byteCells (k ++ l) = Lib.byteCells k ++ Lib.byteCells l := by simp [Lib.byteCells]
theorem strCells_noughts (k : Nat) : Lib.strCells (noughts k) = Lib.byteCells (List.replicate k 48) := rfl
theorem byteCells_length (l : List UInt8) : (Lib.byteCells l).length = l.length := by simp [Lib.byteCells]
theorem noughts_size (k : Nat) : (noughts k).size = k := by simp [noughts, ByteArray.size]

theorem repeat_at (n : Int) (k : Nat) (e : n = k) (h8 : k ≤ 8) (w : World) : Calls Tryd.prog 65 #[.string ⟨#[48]⟩, .int .i64 n] w fun e w' => e = .returned (.string (noughts k)) ∧ w = w' := by
  subst e; exact repeat_any k h8 w

/-- The digits of one group more below. -/
theorem digits_more (H g : Nat) (hH : 1 ≤ H) (hg : g < 1000000000) : Lib.decDigits (H * 1000000000 + g) = Lib.decDigits H ++ (List.replicate (9 - (Lib.decDigits g).length) 48 ++ Lib.decDigits g) := by
  have h1 := decDigits_low 9 H g hH
  rw [Nat.mod_eq_of_lt (show g < 10 ^ 9 from hg), low_pad 9 g (by omega) hg] at h1
  exact h1

set_option maxRecDepth 100000 in
set_option maxHeartbeats 3200000 in
theorem print_any {B : Nat} {w : World} {v : Value} {xs : List Int} (h : Rd B w v xs) (hB : B ≤ w.heap.size) (hsz : xs.length ≤ 1000000) (htab : Lib.TabIs Tryd.prog w "internal/strconv.uint64pow10" .u64 Lib.pow10Tab) :
    Calls Tryd.prog 43 #[v] w fun e w' => Digits w (val xs) e w' := by
  go_enter Tryd.func43, Tryd.ntmps43
  go_wp2_with fail
  refine (begin_any h hB (by omega)).mono ?_
  intro e w1 hm1
  obtain ⟨a, c, rfl, ho, hb⟩ := hm1
  have hz := hb.size
  have hl2 := tr_length_le xs
  have cx := tr_can h.lim
  have hvx := val_tr xs
  have hvb := (val_bound h.lim).2
  generalize tr xs = xs' at *
  have HVX : Hid (val xs' = val xs ∧ val xs < pw xs.length) := ⟨hvx, hvb⟩
  clear hvx hvb
  go_wp2_with fail
  have hbox : Box (w1.alloc (.cells #[.slice a xs'.length c] 87)) w1.heap.size 87 (.slice a xs'.length c) := heap_alloc_new _ _
  refine (groups_any a c hbox (ho.alloc _) cx (by omega)).mono ?_
  rintro e w2 ⟨gs, a2, c2, rfl, howng, hl9, hv9, hlast, hkept⟩
  have hblw : Below w.heap.size w w2 := (hb.alloc hz _).trans (hkept.below hz (by simp; omega) (fun k hk => (ho.2.lt k hk).1))
  rw [HVX.out.1] at hv9
  clear hbox hkept
  by_cases hg0 : gs.length = 0
  · obtain rfl : gs = [] := List.eq_nil_of_length_eq_zero hg0
    have hv0 : val xs = 0 := hv9.symm
    have HV0 : Hid (val xs = 0) := hv0
    clear hv0 hv9
    go_wp2
    go_ret
    refine ⟨?_, hblw⟩
    rw [HV0.out]
    exact ret_str digits_zero
  · have hne : ¬ gs = [] := fun e => hg0 (by rw [e]; rfl)
    have hlast' : ¬ gs.getD (gs.length - 1) 0 = 0 := by
      rcases hlast with h | h
      · exact absurd h hne
      · exact h
    have hgl : gs.length ≤ 2 * xs.length + 1 := by
      have h1 := val9_low hl9 hne hlast'
      have h2 := pw9_few (gs.length - 1) xs.length (val xs) (by omega) HVX.out.2
      omega
    have HG : Hid (∀ i, i < gs.length → 1 ≤ val9 (gs.drop i)) := fun i hi => val9_drop_pos hl9 hlast' i hi
    have HV9 : Hid (val9 gs = val xs) := hv9
    have htab2 := tabIs_below htab hblw
    have hsz2 := hblw.size
    rcases howng.shape with ⟨_, h⟩ | ⟨gb, cap, hveq, hgb1, hgb2, _, _⟩
    · exact absurd h hne
    have ha2 : a2 = some ⟨gb, 0, none⟩ := by
      have := congrArg (fun v : Value => match v with | .slice a _ _ => a | _ => none) hveq
      exact this
    subst ha2
    have hcells : Hid (∀ k, k < gs.length → w2.cell? ⟨gb, k, none⟩ = some (.int .u32 (gs.getD k 0))) := fun k hk => by
      have := howng.cellAt rfl k hk
      simpa using this
    have kb : ((gs.length : Int) == 0) = false := by simp; omega
    have hgp : 0 < gs.length := by omega
    clear hveq hv9 hlast hlast' hne hg0
    have hbs : Below w2.heap.size w2 (w2.alloc (.cells #[.pointer none, .slice none 0 0] 91)) := (Below.refl _ w2).alloc (Nat.le_refl _) _
    go_wp2
    go_loopw [6] (fun ii wr => ∃ (i : Nat) (l : List UInt8), i ≤ gs.length ∧ ii = .int .i64 ((i : Int) - 1) ∧ Hid (i = gs.length → l = []) ∧ Hid (i < gs.length → l = Lib.decDigits (val9 (gs.drop i)).toNat) ∧ l.length + 9 * i ≤ 9 * gs.length ∧ Lib.IsBuilder 91 5 w2.heap.size w2.heap.size (Lib.byteCells l) wr ∧ Below w2.heap.size w2 wr)
      (fun ii _ => (intOf ii + 1).toNat)
    case atStart => exact ⟨gs.length, [], Nat.le_refl _, by go_num, fun _ => rfl, fun h => by omega, by simp, Lib.fresh_isBuilder 91 5 w2, hbs⟩
    case round =>
      obtain ⟨i, l, hi, rfl, hl1, hl2', hll, hIB, hbl⟩ := hrel
      have hs := hbl.size
      by_cases hi0 : i = 0
      · subst hi0
        have hlv : l = Lib.decDigits (val xs).toNat := by rw [hl2'.out (by omega), List.drop_zero, HV9.out]
        subst hlv
        go_wp2_with fail
        refine (Tryd.Builder_String_any w2.heap.size w2.heap.size (Lib.decDigits (val xs).toNat) wr hIB hs).mono ?_
        rintro e w5 ⟨rfl, hbl5⟩
        go_wp2
        go_ret
        exact ⟨rfl, hblw.trans ((hbl.mono hsz2).trans (hbl5.mono hsz2))⟩
      · obtain ⟨k, rfl⟩ : ∃ k, i = k + 1 := ⟨i - 1, by omega⟩
        have hck : wr.cell? ⟨gb, k, none⟩ = some (.int .u32 (gs.getD k 0)) := (hbl.cell hgb2).trans (hcells.out k (by omega))
        have hgk : 0 ≤ gs.getD k 0 ∧ gs.getD k 0 < 1000000000 := by
          have hm : gs.getD k 0 ∈ gs := by
            rw [List.getD_eq_getElem?_getD, List.getElem?_eq_getElem (by omega)]
            exact List.getElem_mem _
          exact hl9 _ hm
        have hvd := val9_drop gs k (by omega)
        obtain ⟨u, hu⟩ := Int.eq_ofNat_of_zero_le hgk.1
        rw [hu] at hck hgk hvd
        have hu9 : u < 1000000000 := by omega
        have HVD : Hid (val9 (gs.drop k) = (u : Int) + 1000000000 * val9 (gs.drop (k + 1))) := hvd
        have hdl : (Lib.decDigits u).length ≤ 9 := decDigits_le 9 u (by omega) hu9
        have hdp := (dval_decDigits u).2.2
        have hsd : (ByteArray.mk (Lib.decDigits u).toArray).size = (Lib.decDigits u).length := by simp [ByteArray.size]
        clear hvd hu hgk
        have eik : (((k + 1 : Nat) : Int) - 1) = (k : Int) := by omega
        rw [eik]
        go_wp2_with fail
        refine (formatUint_any u (by omega) _ (tabIs_below htab2 hbl)).mono ?_
        rintro e w3 ⟨rfl, hbl3⟩
        have hIB3 := builder_below hIB hbl3
        have hs3 := hbl3.size
        have bw3 : Below w2.heap.size w2 w3 := hbl.trans (hbl3.mono hs)
        by_cases htop : k + 1 = gs.length
        · obtain rfl := hl1.out htop
          have HD : Hid (Lib.decDigits u = Lib.decDigits (val9 (gs.drop k)).toNat) := by
            unfold Hid
            rw [HVD.out, htop, List.drop_length]
            simp [val9]
          have hwr := writeString_any w2.heap.size w2.heap.size [] ⟨(Lib.decDigits u).toArray⟩ w3 hIB3 (by rw [hsd]; simp only [List.length_nil]; omega) (by omega)
          have hkt : ¬ ((k : Int) < (gs.length : Int) - 1) := by omega
          clear hsd htop
          go_wp2_with fail
          refine hwr.mono ?_
          rintro e w4 ⟨rfl, hBA, hbl4⟩
          clear hwr
          rw [List.nil_append, strCells_digits] at hBA
          have hs4 := hbl4.size
          go_wp2
          go_roundw
          case rel => exact ⟨k, Lib.decDigits u, by omega, by go_num, fun h => by omega, fun _ => HD.out, by omega, Or.inr hBA, bw3.trans hbl4⟩
          case measure => simp [intOf]
        · have hkt : (k : Int) < (gs.length : Int) - 1 := by omega
          have hH := HG.out (k + 1) (by omega)
          obtain ⟨H, hHe⟩ := Int.eq_ofNat_of_zero_le (show 0 ≤ val9 (gs.drop (k + 1)) by omega)
          have hlH : l = Lib.decDigits H := by rw [hl2'.out (by omega), hHe]; rfl
          have HD : Hid (l ++ (List.replicate (9 - (Lib.decDigits u).length) 48 ++ Lib.decDigits u) = Lib.decDigits (val9 (gs.drop k)).toNat) := by
            unfold Hid
            rw [hlH, ← digits_more H u (by omega) hu9, HVD.out, hHe]
            congr 1
            omega
          clear hlH hHe hH
          have hw1 := writeString_any w2.heap.size w2.heap.size (Lib.byteCells l) (noughts (9 - (Lib.decDigits u).length)) w3 hIB3 (by rw [byteCells_length, noughts_size]; omega) (by omega)
          rw [strCells_noughts, ← byteCells_append, noughts_size] at hw1
          go_wp2_with fail
          refine (repeat_at _ (9 - (Lib.decDigits u).length) (by omega) (by omega) _).mono ?_
          rintro e w' ⟨rfl, rfl⟩
          go_wp2_with fail
          refine hw1.mono ?_
          rintro e w4 ⟨rfl, hBA, hbl4⟩
          clear hw1
          have hs4 := hbl4.size
          have hw2 := writeString_any w2.heap.size w2.heap.size _ ⟨(Lib.decDigits u).toArray⟩ w4 (Or.inr hBA) (by rw [hsd, byteCells_length, List.length_append, List.length_replicate]; omega) (by omega)
          rw [strCells_digits, ← byteCells_append, List.append_assoc] at hw2
          clear hsd
          go_wp2_with fail
          refine hw2.mono ?_
          rintro e w5 ⟨rfl, hBA5, hbl5⟩
          clear hw2
          go_wp2
          go_roundw
          case rel => exact ⟨k, l ++ (List.replicate (9 - (Lib.decDigits u).length) 48 ++ Lib.decDigits u), by omega, by go_num, fun h => by omega, fun _ => HD.out, (by simp only [List.length_append, List.length_replicate]; omega), Or.inr hBA5, bw3.trans (hbl4.trans hbl5)⟩
          case measure => simp [intOf]
end Go.Proofs.YtibciilhfpgjjadDoor
