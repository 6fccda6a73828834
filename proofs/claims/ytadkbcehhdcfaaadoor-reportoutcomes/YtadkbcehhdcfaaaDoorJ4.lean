/- rat.fold of two numbers, by rat.plus. -/
import Derived.Test.YtadkbcehhdcfaaaDoorJ3
import Derived.Lib.ItoaNum
import Derived.Test.YtadkbcehhdcfaaaDoorJ2
namespace Go.Proofs.YtadkbcehhdcfaaaDoor
set_option linter.unusedVariables false
set_option linter.unusedSimpArgs false
open Go.RowKit

section
variable {B Lb : Nat} {w : World} {bx cy : Bool} {a1 a2 a3 a4 : Option Addr} {c1 c2 c3 c4 : Nat} {xn xd yn yd : List Int}

end
end Go.Proofs.YtadkbcehhdcfaaaDoor

/- rat.plus. -/
namespace Go.Proofs.YtadkbcehhdcfaaaDoor
set_option linter.unusedVariables false
set_option linter.unusedSimpArgs false
open Go.RowKit

/-- What rat.plus needs of a number. -/
def Weak (ns ds : List Int) : Prop := ns.length ≤ 32 ∧ ds.length ≤ 32 ∧ 0 < val ds
theorem RightP.weak {b : Bool} {ns ds : List Int} (h : RightP b ns ds) : Weak ns ds := ⟨h.1, h.2.1, (right_pos h).1⟩

end Go.Proofs.YtadkbcehhdcfaaaDoor

/- rat.OfInt of 0 and 1; rat.Mul and rat.Add of two. -/
namespace Go.Proofs.YtadkbcehhdcfaaaDoor
set_option linter.unusedVariables false
set_option linter.unusedSimpArgs false
open Go.RowKit

/-- A reckoning's answer, laid into the variable of the result. -/
theorem gives_done {w wR w2 wF : World} {P : Prop} {N D : Int} {b : Bool} {x1 x2 : Option Addr} {n m y1 y2 R : Nat} {err : Int} (b0 : Below w.heap.size w wR) (hR : w.heap.size ≤ R) (s0 : R < wR.heap.size) (hb : Below wR.heap.size wR w2) (hF : wR.heap.size ≤ wF.heap.size) (h : Hid (Out w2 wF.heap.size P N D b x1 n y1 x2 m y2 err)) :
    Gives w P N D (.returned (.tuple #[.agg #[.bool b, .slice x1 n y1, .slice x2 m y2], .int .i64 err])) (((w2.setCell ⟨R, 0, none⟩ (.bool b)).setCell ⟨R, 1, none⟩ (.slice x1 n y1)).setCell ⟨R, 2, none⟩ (.slice x2 m y2)) :=
  ⟨Below.set3 (b0.trans (hb.mono (by omega))) hR _ _ _, b, x1, n, y1, x2, m, y2, err, rfl, h.out.turn (fun v xs ho => (Own.set3 ho (by omega) _ _ _).mono (by omega))⟩

section
variable {B Lb : Nat} {w : World} {bx cy : Bool} {a1 a2 a3 a4 : Option Addr} {c1 c2 c3 c4 : Nat} {xn xd yn yd : List Int}

end
end Go.Proofs.YtadkbcehhdcfaaaDoor

/- rat.by. -/
namespace Go.Proofs.YtadkbcehhdcfaaaDoor
set_option linter.unusedVariables false
set_option linter.unusedSimpArgs false
open Go.RowKit

end Go.Proofs.YtadkbcehhdcfaaaDoor

/- rat.Div of a number by itself. -/
namespace Go.Proofs.YtadkbcehhdcfaaaDoor
set_option linter.unusedVariables false
set_option linter.unusedSimpArgs false
open Go.RowKit

theorem gI_self (x : Int) (h : 0 ≤ x) : gI x x = x := by unfold gI; rw [Nat.gcd_self]; omega
theorem one_ratio {b : Bool} {ns ds : List Int} {D : Int} (hD : 0 < D) (cn : can ns) (cd : can ds) (hd : 0 < ds.length) (hg : gI (val ns) (val ds) = 1) (hv : sg b (val ns) * D = D * val ds) : b = false ∧ ns = [1] ∧ ds = [1] := by
  rw [Int.mul_comm D] at hv
  have e : sg b (val ns) = val ds := Int.eq_of_mul_eq_mul_right (by omega) hv
  have h1 := can_low cd hd
  have h2 := pw_pos (ds.length - 1)
  have h3 := (val_bound cn.1).1
  cases b with
  | true => unfold sg at e; simp at e; omega
  | false =>
    rw [sg_false] at e
    rw [e, gI_self _ (by omega)] at hg
    exact ⟨rfl, limbs_of cn 1 (by omega) (by omega) (by omega), limbs_of cd 1 (by omega) (by omega) (by omega)⟩

/-- What a number by itself answers. -/
def Selfs (w : World) (P : Prop) (e : Ending) (w' : World) : Prop :=
  Below w.heap.size w w' ∧ ∃ b x1 n y1 x2 m y2 err, e = .returned (.tuple #[.agg #[.bool b, .slice x1 n y1, .slice x2 m y2], .int .i64 err]) ∧ Hid ((¬ P → err = 22) ∧ (P → err = 0 ∧ b = false ∧ n = [(1 : Int)].length ∧ m = [(1 : Int)].length ∧ Own w.heap.size w' (.slice x1 n y1) [1] ∧ Own w.heap.size w' (.slice x2 m y2) [1]))

end Go.Proofs.YtadkbcehhdcfaaaDoor

/- rat.difference. -/
namespace Go.Proofs.YtadkbcehhdcfaaaDoor
set_option linter.unusedVariables false
set_option linter.unusedSimpArgs false
open Go.RowKit

end Go.Proofs.YtadkbcehhdcfaaaDoor

/- rat.Compare. -/
namespace Go.Proofs.YtadkbcehhdcfaaaDoor
set_option linter.unusedVariables false
set_option linter.unusedSimpArgs false
open Go.RowKit

theorem sg_not (b : Bool) (x : Int) : sg (!b) x = - sg b x := by unfold sg; cases b <;> simp

section
variable {B : Nat} {w : World} {bx cy : Bool} {a1 a2 a3 a4 : Option Addr} {c1 c2 c3 c4 : Nat} {xn xd yn yd : List Int}

/-- What rat.Compare answers. -/
def Compares (P : Prop) (a b : Int) (e : Ending) : Prop := ∃ r : Int, e = .returned (.int .i64 r) ∧ (¬ P → r = 0) ∧ (P → r = cmpI a b)

end
end Go.Proofs.YtadkbcehhdcfaaaDoor

/- Plain facts on decimal digits: what number they say; how the digits of a number lie in groups of nine. No program is named. -/
namespace Go.Proofs.YtadkbcehhdcfaaaDoor
set_option linter.unusedVariables false
set_option linter.unusedSimpArgs false
open Go.Lib

/-- The number that digits say. -/
def dval (l : List UInt8) : Nat := l.foldl (fun a b => a * 10 + (b.toNat - 48)) 0
/-- Each one a digit. -/
def digs (l : List UInt8) : Prop := ∀ b ∈ l, 48 ≤ b.toNat ∧ b.toNat ≤ 57

theorem dval_from (l : List UInt8) (a : Nat) : l.foldl (fun a b => a * 10 + (b.toNat - 48)) a = a * 10 ^ l.length + dval l := by
  induction l generalizing a with
  | nil => simp [dval]
  | cons b l ih =>
    unfold dval
    simp only [List.foldl_cons, List.length_cons]
    rw [ih, ih (0 * 10 + (b.toNat - 48)), Nat.pow_succ]
    simp only [Nat.zero_mul, Nat.zero_add, Nat.add_mul, Nat.mul_assoc, Nat.mul_comm 10]
    omega
theorem dval_append (k l : List UInt8) : dval (k ++ l) = dval k * 10 ^ l.length + dval l := by
  show (k ++ l).foldl _ 0 = _
  rw [List.foldl_append, dval_from]; rfl
theorem dval_snoc (l : List UInt8) (b : UInt8) : dval (l ++ [b]) = dval l * 10 + (b.toNat - 48) := by
  rw [dval_append]; simp [dval]
theorem dval_nil : dval [] = 0 := rfl

theorem digit_toNat (d : Nat) (h : d < 10) : (UInt8.ofNat (48 + d)).toNat = 48 + d := by
  rw [UInt8.toNat_ofNat']; omega

theorem dval_decDigits (u : Nat) : dval (decDigits u) = u ∧ digs (decDigits u) ∧ 0 < (decDigits u).length := by
  induction u using Nat.strongRecOn with
  | _ u ih =>
    by_cases h : u < 10
    · rw [decDigits, dif_pos h]
      refine ⟨?_, ?_, by simp⟩
      · simp only [dval, List.foldl_cons, List.foldl_nil, digit_toNat u h]; omega
      · intro b hb
        rw [List.mem_singleton] at hb; subst hb
        rw [digit_toNat u h]; omega
    · rw [decDigits, dif_neg h]
      obtain ⟨h1, h2, h3⟩ := ih (u / 10) (by omega)
      refine ⟨?_, ?_, by simp⟩
      · rw [dval_snoc, h1, digit_toNat _ (by omega)]; omega
      · intro b hb
        rw [List.mem_append] at hb
        rcases hb with hb | hb
        · exact h2 b hb
        · rw [List.mem_singleton] at hb; subst hb
          rw [digit_toNat _ (by omega)]; omega

/-- The k lowest digits of a number. -/
def low (k g : Nat) : List UInt8 := match k with
  | 0 => []
  | k + 1 => low k (g / 10) ++ [UInt8.ofNat (48 + g % 10)]
theorem low_length (k g : Nat) : (low k g).length = k := by
  induction k generalizing g with
  | zero => rfl
  | succ k ih => simp [low, ih]
/-- A number's digits: those of its upper part, and the k lowest. -/
theorem decDigits_low (k h g : Nat) (hh : 1 ≤ h) : decDigits (h * 10 ^ k + g % 10 ^ k) = decDigits h ++ low k g := by
  induction k generalizing g with
  | zero => simp [low, Nat.mod_one]
  | succ k ih =>
    have hp : 1 ≤ 10 ^ k := Nat.one_le_pow _ _ (by decide)
    have hm : g % 10 ^ (k + 1) = 10 * (g / 10 % 10 ^ k) + g % 10 := by
      rw [Nat.pow_succ, Nat.mul_comm, Nat.mod_mul]; omega
    have e1 : (h * 10 ^ (k + 1) + g % 10 ^ (k + 1)) / 10 = h * 10 ^ k + g / 10 % 10 ^ k := by
      rw [hm, Nat.pow_succ, ← Nat.mul_assoc]; omega
    have e2 : (h * 10 ^ (k + 1) + g % 10 ^ (k + 1)) % 10 = g % 10 := by
      rw [hm, Nat.pow_succ, ← Nat.mul_assoc]; omega
    have hge : ¬ h * 10 ^ (k + 1) + g % 10 ^ (k + 1) < 10 := by
      rw [Nat.pow_succ, ← Nat.mul_assoc]
      have : 1 ≤ h * 10 ^ k := Nat.mul_le_mul hh hp
      omega
    rw [decDigits, dif_neg hge, e1, e2, ih (g / 10)]
    show _ = decDigits h ++ (low k (g / 10) ++ [_])
    rw [List.append_assoc]
theorem low_zero (k : Nat) : low k 0 = List.replicate k 48 := by
  induction k with
  | zero => rfl
  | succ k ih => simp only [low, ih, Nat.zero_div]; rw [List.replicate_succ']; rfl
/-- The k lowest digits of a number that has no more: noughts, and its digits. -/
theorem low_pad (k g : Nat) (hk : 1 ≤ k) (hg : g < 10 ^ k) : low k g = List.replicate (k - (decDigits g).length) 48 ++ decDigits g := by
  induction k generalizing g with
  | zero => omega
  | succ k ih =>
    by_cases h : g < 10
    · rw [decDigits, dif_pos h]
      simp only [low]
      rw [Nat.div_eq_of_lt h, Nat.mod_eq_of_lt h, low_zero]
      rfl
    · rw [decDigits, dif_neg h]
      simp only [low]
      have hk1 : 1 ≤ k := by
        by_cases h0 : k = 0
        · subst h0; simp at hg; omega
        · omega
      rw [ih (g / 10) hk1 (by rw [Nat.pow_succ] at hg; omega), List.append_assoc]
      congr 2
      simp
theorem decDigits_le (k g : Nat) (hk : 1 ≤ k) (hg : g < 10 ^ k) : (decDigits g).length ≤ k := by
  have h1 := low_length k g
  rw [low_pad k g hk hg, List.length_append, List.length_replicate] at h1
  omega
end Go.Proofs.YtadkbcehhdcfaaaDoor

/- strings.Repeat of a nought, at most eight times; strings.HasPrefix. -/
namespace Go.Proofs.YtadkbcehhdcfaaaDoor
set_option linter.unusedVariables false
set_option linter.unusedSimpArgs false
open Go.RowKit

theorem hasPrefixI (s t : ByteArray) (r : Bool) (w : World) (hst : t.size ≤ s.size) (hb : s.size ≤ 1000000) (hr : ((s.extract 0 t.size).toList == t.toList) = r) : Calls Tryd.prog 52 #[.string s, .string t] w fun e w' => e = .returned (.bool r) ∧ w = w' := by
  subst hr
  go_enter Tryd.func52, Tryd.ntmps52
  go_wp2
  go_ret
  exact ⟨rfl, rfl⟩

theorem hasPrefix (s t : ByteArray) (r : Bool) (w : World) (hst : t.size ≤ s.size) (hb : s.size ≤ 1000000) (hr : ((s.extract 0 t.size).toList == t.toList) = r) : Calls Tryd.prog 34 #[.string s, .string t] w fun e w' => e = .returned (.bool r) ∧ w = w' := by
  go_enter Tryd.func34, Tryd.ntmps34
  go_wp2_with fail
  refine (hasPrefixI s t r w hst hb hr).mono ?_
  rintro e w' ⟨rfl, rfl⟩
  go_wp2
  go_ret
  exact ⟨rfl, rfl⟩

def noughts (k : Nat) : ByteArray := ⟨(List.replicate k (48 : UInt8)).toArray⟩

theorem noughts_of (k : Nat) (hk : k ≤ 8) : ByteArray.extract ⟨#[48, 48, 48, 48, 48, 48, 48, 48, 48, 48, 48, 48, 48, 48, 48, 48, 48, 48, 48, 48, 48, 48, 48, 48, 48, 48, 48, 48, 48, 48, 48, 48, 48, 48, 48, 48, 48, 48, 48, 48, 48, 48, 48, 48, 48, 48, 48, 48, 48, 48, 48, 48, 48, 48, 48, 48, 48, 48, 48, 48, 48, 48, 48, 48]⟩ 0 k = noughts k := by
  have : ∀ k : Fin 9, ByteArray.extract ⟨#[48, 48, 48, 48, 48, 48, 48, 48, 48, 48, 48, 48, 48, 48, 48, 48, 48, 48, 48, 48, 48, 48, 48, 48, 48, 48, 48, 48, 48, 48, 48, 48, 48, 48, 48, 48, 48, 48, 48, 48, 48, 48, 48, 48, 48, 48, 48, 48, 48, 48, 48, 48, 48, 48, 48, 48, 48, 48, 48, 48, 48, 48, 48, 48]⟩ 0 k.val = noughts k.val := by decide +kernel
  exact this ⟨k, by omega⟩

set_option maxRecDepth 100000 in
set_option maxHeartbeats 1600000 in
theorem repeat_more (k : Nat) (h2 : 2 ≤ k) (h8 : k ≤ 8) (w : World) : Calls Tryd.prog 25 #[.string ⟨#[48]⟩, .int .i64 k] w fun e w' => e = .returned (.string (noughts k)) ∧ w = w' := by
  have e1 : 1 * k / 18446744073709551616 = 0 := by omega
  have e2 : 1 * k % 18446744073709551616 = k := by omega
  go_enter Tryd.func25, Tryd.ntmps25
  go_wp2_with fail
  refine (Tryd.bits_Mul 1 k (by omega) (by omega) _).mono ?_
  rintro e w' ⟨rfl, hw⟩
  have hw := hw.symm
  subst hw
  rw [e1, e2]
  go_wp2_with fail
  refine (hasPrefix _ _ false _ (by decide) (by decide) (by decide +kernel)).mono ?_
  rintro e w' ⟨rfl, rfl⟩
  go_wp2_with fail
  refine (hasPrefix _ _ false _ (by decide) (by decide) (by decide +kernel)).mono ?_
  rintro e w' ⟨rfl, rfl⟩
  go_wp2_with fail
  refine (hasPrefix _ _ true _ (by decide) (by decide) (by decide +kernel)).mono ?_
  rintro e w' ⟨rfl, rfl⟩
  go_wp2
  rw [noughts_of k h8]
  go_ret
  exact ⟨rfl, rfl⟩

set_option maxRecDepth 100000 in
theorem repeat_any (k : Nat) (h8 : k ≤ 8) (w : World) : Calls Tryd.prog 25 #[.string ⟨#[48]⟩, .int .i64 k] w fun e w' => e = .returned (.string (noughts k)) ∧ w = w' := by
  by_cases h2 : 2 ≤ k
  · exact repeat_more k h2 h8 w
  · match k, h2 with
    | 0, _ =>
      go_enter Tryd.func25, Tryd.ntmps25
      go_wp2
      go_ret
      exact ⟨rfl, rfl⟩
    | k + 2, h => omega
    | 1, _ =>
      go_enter Tryd.func25, Tryd.ntmps25
      go_wp2
      go_ret
      exact ⟨rfl, rfl⟩
end Go.Proofs.YtadkbcehhdcfaaaDoor

/- nat.Print at whatever number: its decimal digits. -/
namespace Go.Proofs.YtadkbcehhdcfaaaDoor
set_option linter.unusedVariables false
set_option linter.unusedSimpArgs false
open Go.RowKit

theorem val9_drop (gs : List Int) (i : Nat) (hi : i < gs.length) : val9 (gs.drop i) = gs.getD i 0 + 1000000000 * val9 (gs.drop (i + 1)) := by
  rw [List.drop_eq_getElem_cons hi]
  simp [val9, hi]
theorem val9_drop_pos {gs : List Int} (h : lim9 gs) (hl : ¬ gs.getD (gs.length - 1) 0 = 0) (i : Nat) (hi : i < gs.length) : 1 ≤ val9 (gs.drop i) := by
  have h1 := val9_low (gs := gs.drop i) (fun x hx => h x (List.mem_of_mem_drop hx)) (by intro e; have := congrArg List.length e; simp at this; omega) (by
    have e : (gs.drop i).getD ((gs.drop i).length - 1) 0 = gs.getD (gs.length - 1) 0 := by
      simp only [List.getD, List.getElem?_drop, List.length_drop]
      congr 2; omega
    rw [e]; exact hl)
  have := pw9_pos ((gs.drop i).length - 1)
  omega

theorem byteCells_append (k l : List UInt8) : Lib.byteCells (k ++ l) = Lib.byteCells k ++ Lib.byteCells l := by simp [Lib.byteCells]
theorem strCells_noughts (k : Nat) : Lib.strCells (noughts k) = Lib.byteCells (List.replicate k 48) := rfl
theorem byteCells_length (l : List UInt8) : (Lib.byteCells l).length = l.length := by simp [Lib.byteCells]
theorem noughts_size (k : Nat) : (noughts k).size = k := by simp [noughts, ByteArray.size]

theorem repeat_at (n : Int) (k : Nat) (e : n = k) (h8 : k ≤ 8) (w : World) : Calls Tryd.prog 25 #[.string ⟨#[48]⟩, .int .i64 n] w fun e w' => e = .returned (.string (noughts k)) ∧ w = w' := by
  subst e; exact repeat_any k h8 w

/-- The digits of one group more below. -/
theorem digits_more (H g : Nat) (hH : 1 ≤ H) (hg : g < 1000000000) : Lib.decDigits (H * 1000000000 + g) = Lib.decDigits H ++ (List.replicate (9 - (Lib.decDigits g).length) 48 ++ Lib.decDigits g) := by
  have h1 := decDigits_low 9 H g hH
  rw [Nat.mod_eq_of_lt (show g < 10 ^ 9 from hg), low_pad 9 g (by omega) hg] at h1
  exact h1

end Go.Proofs.YtadkbcehhdcfaaaDoor

/- rat.Print of a right number. -/
namespace Go.Proofs.YtadkbcehhdcfaaaDoor
set_option linter.unusedVariables false
set_option linter.unusedSimpArgs false
open Go.RowKit

theorem pw_tens (L : Nat) : pw L ≤ ((10 ^ (10 * L) : Nat) : Int) := by
  induction L with
  | zero => decide
  | succ L ih =>
    rw [pw_succ, Nat.mul_succ, Nat.pow_add, Int.natCast_mul]
    have h1 : (0 : Int) ≤ ((10 ^ (10 * L) : Nat) : Int) := Int.natCast_nonneg _
    have e : ((10 ^ 10 : Nat) : Int) = 10000000000 := by decide
    rw [e]
    have := pw_pos L
    generalize ((10 ^ (10 * L) : Nat) : Int) = T at *
    omega
theorem dig_bound {xs : List Int} (h : lim xs) : (Lib.decDigits (val xs).toNat).length ≤ 10 * xs.length + 1 := by
  refine decDigits_le (10 * xs.length + 1) _ (by omega) ?_
  have h1 := pw_tens xs.length
  have h2 : 10 ^ (10 * xs.length) ≤ 10 ^ (10 * xs.length + 1) := Nat.pow_le_pow_right (by decide) (by omega)
  have h3 := val_bound h
  omega

def digB (xs : List Int) : ByteArray := ⟨(Lib.decDigits (val xs).toNat).toArray⟩
theorem digB_size {xs : List Int} (h : lim xs) : (digB xs).size ≤ 10 * xs.length + 1 := by
  have := dig_bound h
  unfold digB
  simpa [ByteArray.size] using this
/-- A number's text. -/
def ratText (b : Bool) (ns ds : List Int) : ByteArray :=
  let t := if b = true then (⟨#[194, 175]⟩ : ByteArray) ++ digB ns else digB ns
  if ds = [1] then t else t ++ ((⟨#[114]⟩ : ByteArray) ++ digB ds)

end Go.Proofs.YtadkbcehhdcfaaaDoor

/- Plain facts on rationals: sums and products go together; lowest terms are unique. -/
namespace Go.Proofs.YtadkbcehhdcfaaaDoor
set_option linter.unusedVariables false
set_option linter.unusedSimpArgs false
open Go.RowKit

theorem cancel {a b k : Int} (hk : 0 < k) (h : a * k = b * k) : a = b := Int.eq_of_mul_eq_mul_right (by omega) h

theorem field_left {X Y Z xd yd zd S sd P pd : Int} (hs : 0 < sd) (h1 : P * (xd * sd) = X * S * pd) (h2 : S * (yd * zd) = (Y * zd + Z * yd) * sd) : P * (xd * (yd * zd)) = X * pd * (Y * zd + Z * yd) := by
  refine cancel hs ?_
  have e1 : P * (xd * (yd * zd)) * sd = P * (xd * sd) * (yd * zd) := by ac_rfl
  have e2 : X * S * pd * (yd * zd) = X * pd * (S * (yd * zd)) := by ac_rfl
  have e3 : X * pd * ((Y * zd + Z * yd) * sd) = X * pd * (Y * zd + Z * yd) * sd := by ac_rfl
  rw [e1, h1, e2, h2, e3]

theorem field_right {X Y Z xd yd zd Q qd R rd T td : Int} (hq : 0 < qd) (hr : 0 < rd) (h1 : Q * (xd * yd) = X * Y * qd) (h2 : R * (xd * zd) = X * Z * rd) (h3 : T * (qd * rd) = (Q * rd + R * qd) * td) : T * (xd * (yd * zd)) = X * td * (Y * zd + Z * yd) := by
  refine cancel (Int.mul_pos hq hr) ?_
  have e1 : T * (xd * (yd * zd)) * (qd * rd) = T * (qd * rd) * (xd * (yd * zd)) := by ac_rfl
  have e2 : (Q * rd + R * qd) * td * (xd * (yd * zd)) = Q * (xd * yd) * (rd * zd * td) + R * (xd * zd) * (qd * yd * td) := by
    rw [Int.add_mul, Int.add_mul]
    congr 1 <;> ac_rfl
  have e3 : X * Y * qd * (rd * zd * td) = X * td * (Y * zd) * (qd * rd) := by ac_rfl
  have e4 : X * Z * rd * (qd * yd * td) = X * td * (Z * yd) * (qd * rd) := by ac_rfl
  rw [e1, h3, e2, h1, h2, e3, e4, ← Int.add_mul, ← Int.mul_add]

theorem field_same {P pd T td K M : Int} {X : Int} (hK : 0 < K) (h1 : P * K = X * pd * M) (h2 : T * K = X * td * M) : P * td = T * pd := by
  refine cancel hK ?_
  have e1 : P * td * K = P * K * td := by ac_rfl
  have e2 : T * pd * K = T * K * pd := by ac_rfl
  rw [e1, e2, h1, h2]
  ac_rfl

/-- Lowest terms are unique. -/
theorem lowest {b c : Bool} {ns ds ms es : List Int} (h : RightP b ns ds) (k : RightP c ms es) (e : sg b (val ns) * val es = sg c (val ms) * val ds) : b = c ∧ ns = ms ∧ ds = es := by
  have hp := right_pos h
  have kp := right_pos k
  have hz : ∀ {b : Bool} {ns ds : List Int}, RightP b ns ds → val ns = 0 → b = false := by
    intro b ns ds h hv
    have h1 := (can_zero h.2.2.1).2 hv
    cases b with
    | false => rfl
    | true => exact absurd ⟨rfl, h1⟩ h.2.2.2.2.1
  have hab : val ns * val es = val ms * val ds ∧ b = c := by
    have n1 : 0 ≤ val ns * val es := Int.mul_nonneg hp.2 (by omega)
    have n2 : 0 ≤ val ms * val ds := Int.mul_nonneg kp.2 (by omega)
    rw [← sg_mul, ← sg_mul] at e
    have zero : val ns * val es = 0 → val ms * val ds = 0 → b = c := by
      intro z1 z2
      have y1 : val ns = 0 := by
        rcases Int.mul_eq_zero.1 z1 with y | y
        · exact y
        · omega
      have y2 : val ms = 0 := by
        rcases Int.mul_eq_zero.1 z2 with y | y
        · exact y
        · omega
      rw [hz h y1, hz k y2]
    unfold sg at e
    generalize val ns * val es = p at *
    generalize val ms * val ds = q at *
    cases b <;> cases c <;> simp at e
    · exact ⟨e, rfl⟩
    · have : p = 0 ∧ q = 0 := by omega
      exact ⟨by omega, zero this.1 this.2⟩
    · have : p = 0 ∧ q = 0 := by omega
      exact ⟨by omega, zero this.1 this.2⟩
    · exact ⟨by omega, rfl⟩
  obtain ⟨hm, hbc⟩ := hab
  obtain ⟨n, en⟩ := Int.eq_ofNat_of_zero_le hp.2
  obtain ⟨d, ed⟩ := Int.eq_ofNat_of_zero_le (Int.le_of_lt hp.1)
  obtain ⟨m, em⟩ := Int.eq_ofNat_of_zero_le kp.2
  obtain ⟨f, ef⟩ := Int.eq_ofNat_of_zero_le (Int.le_of_lt kp.1)
  have g1 : Nat.gcd n d = 1 := by
    have := h.2.2.2.2.2.2
    rw [en, ed] at this
    unfold gI at this
    simp only [Int.toNat_natCast] at this
    omega
  have g2 : Nat.gcd m f = 1 := by
    have := k.2.2.2.2.2.2
    rw [em, ef] at this
    unfold gI at this
    simp only [Int.toNat_natCast] at this
    omega
  rw [en, ed, em, ef] at hm
  have hmn : n * f = m * d := by exact_mod_cast hm
  have d1 : d ∣ f := (Nat.Coprime.dvd_of_dvd_mul_left (show Nat.Coprime d n by rw [Nat.coprime_comm]; exact g1) ⟨m, by rw [hmn, Nat.mul_comm]⟩)
  have d2 : f ∣ d := (Nat.Coprime.dvd_of_dvd_mul_left (show Nat.Coprime f m by rw [Nat.coprime_comm]; exact g2) ⟨n, by rw [← hmn, Nat.mul_comm]⟩)
  have hdf : d = f := Nat.dvd_antisymm d1 d2
  subst hdf
  have hd0 : 0 < d := by omega
  have hnm : n = m := Nat.eq_of_mul_eq_mul_right hd0 hmn
  exact ⟨hbc, can_inj h.2.2.1 k.2.2.1 (by rw [en, em, hnm]), can_inj h.2.2.2.1 k.2.2.2.1 (by rw [ed, ef])⟩

/-- The lists that an answer reads as, whatever it is. -/
theorem Out.lists {w' : World} {k : Nat} {P : Prop} {N D err : Int} {b : Bool} {x1 x2 : Option Addr} {n m y1 y2 : Nat} (h : Out w' k P N D b x1 n y1 x2 m y2 err) :
    ∃ ns ds, n = ns.length ∧ m = ds.length ∧ Rd w'.heap.size w' (.slice x1 ns.length y1) ns ∧ Rd w'.heap.size w' (.slice x2 ds.length y2) ds ∧ Hid ((err = 0 → P ∧ RightP b ns ds ∧ sg b (val ns) * D = N * val ds) ∧ (¬ P → err = 22)) := by
  have nil : Rd w'.heap.size w' (.slice none 0 0) [] := Own.rd (base := 0) ⟨lim_nil, World.ownsRow_nil _ _ _ _⟩
  rcases h with ⟨hp, rfl, rfl, rfl, rfl, rfl, rfl, rfl, rfl⟩ | ⟨hp, rfl, rfl, rfl, rfl, rfl, rfl, rfl, rfl, _⟩ | ⟨hp, rfl, ns, ds, rfl, rfl, on, od, hr, hv⟩
  · exact ⟨[], [], rfl, rfl, nil, nil, (fun h => by omega), fun _ => rfl⟩
  · exact ⟨[], [], rfl, rfl, nil, nil, (fun h => by omega), fun h => absurd hp h⟩
  · exact ⟨ns, ds, rfl, rfl, on.rd, od.rd, (fun _ => ⟨hp, hr, hv⟩), fun h => absurd hp h⟩
end Go.Proofs.YtadkbcehhdcfaaaDoor

/- A variable of a number: its block, and what its limbs read as. -/
namespace Go.Proofs.YtadkbcehhdcfaaaDoor
set_option linter.unusedVariables false
set_option linter.unusedSimpArgs false
open Go.RowKit

structure NVar (w : World) (k : Nat) (b : Bool) (a1 : Option Addr) (ns : List Int) (c1 : Nat) (a2 : Option Addr) (ds : List Int) (c2 : Nat) : Prop where
  lt : k < w.heap.size
  box : Box3 w k 57 (.bool b) (.slice a1 ns.length c1) (.slice a2 ds.length c2)
  rn : Rd w.heap.size w (.slice a1 ns.length c1) ns
  rd : Rd w.heap.size w (.slice a2 ds.length c2) ds
section
variable {w w' : World} {k : Nat} {b : Bool} {a1 a2 : Option Addr} {ns ds : List Int} {c1 c2 : Nat}
theorem NVar.below (h : NVar w k b a1 ns c1 a2 ds c2) (hb : Below w.heap.size w w') : NVar w' k b a1 ns c1 a2 ds c2 :=
  ⟨Nat.lt_of_lt_of_le h.lt hb.size, h.box.below hb h.lt, (h.rn.below hb).mono hb.size, (h.rd.below hb).mono hb.size⟩
theorem NVar.k0 (h : NVar w k b a1 ns c1 a2 ds c2) : w.cell? ⟨k, 0, none⟩ = some (.bool b) := h.box.c0
theorem NVar.k1 (h : NVar w k b a1 ns c1 a2 ds c2) : w.cell? ⟨k, 1, none⟩ = some (.slice a1 ns.length c1) := h.box.c1
theorem NVar.k2 (h : NVar w k b a1 ns c1 a2 ds c2) : w.cell? ⟨k, 2, none⟩ = some (.slice a2 ds.length c2) := h.box.c2
theorem nvar_new (hn : Rd w.heap.size w (.slice a1 ns.length c1) ns) (hd : Rd w.heap.size w (.slice a2 ds.length c2) ds) : NVar (w.alloc (.cells #[.bool b, .slice a1 ns.length c1, .slice a2 ds.length c2] 57)) w.heap.size b a1 ns c1 a2 ds c2 :=
  ⟨by simp, box3_new _ _ _ _ _, (hn.below (below_alloc _ _)).mono (by simp), (hd.below (below_alloc _ _)).mono (by simp)⟩
end
section
variable {w : World} {bx cy dz : Bool} {a1 a2 a3 a4 a5 a6 : Option Addr} {c1 c2 c3 c4 c5 c6 : Nat} {xn xd yn yd zn zd : List Int}
/-- Two numbers come in. -/
theorem nvar_in2 (h1 : Rd w.heap.size w (.slice a1 xn.length c1) xn) (h2 : Rd w.heap.size w (.slice a2 xd.length c2) xd) (h3 : Rd w.heap.size w (.slice a3 yn.length c3) yn) (h4 : Rd w.heap.size w (.slice a4 yd.length c4) yd) :
    NVar ((w.alloc (.cells #[.bool bx, .slice a1 xn.length c1, .slice a2 xd.length c2] 57)).alloc (.cells #[.bool cy, .slice a3 yn.length c3, .slice a4 yd.length c4] 57)) w.heap.size bx a1 xn c1 a2 xd c2 ∧
    NVar ((w.alloc (.cells #[.bool bx, .slice a1 xn.length c1, .slice a2 xd.length c2] 57)).alloc (.cells #[.bool cy, .slice a3 yn.length c3, .slice a4 yd.length c4] 57)) (w.heap.size + 1) cy a3 yn c3 a4 yd c4 ∧
    Below w.heap.size w ((w.alloc (.cells #[.bool bx, .slice a1 xn.length c1, .slice a2 xd.length c2] 57)).alloc (.cells #[.bool cy, .slice a3 yn.length c3, .slice a4 yd.length c4] 57)) := by
  have b1 := below_alloc w (.cells #[.bool bx, .slice a1 xn.length c1, .slice a2 xd.length c2] 57)
  have X := nvar_new (b := bx) h1 h2
  have Y := nvar_new (b := cy) ((h3.below b1).mono b1.size) ((h4.below b1).mono b1.size)
  rw [World.size_alloc] at Y
  exact ⟨X.below (below_alloc _ _), Y, b1.alloc (by simp) _⟩
/-- Three numbers come in. -/
theorem nvar_in3 (h1 : Rd w.heap.size w (.slice a1 xn.length c1) xn) (h2 : Rd w.heap.size w (.slice a2 xd.length c2) xd) (h3 : Rd w.heap.size w (.slice a3 yn.length c3) yn) (h4 : Rd w.heap.size w (.slice a4 yd.length c4) yd) (h5 : Rd w.heap.size w (.slice a5 zn.length c5) zn) (h6 : Rd w.heap.size w (.slice a6 zd.length c6) zd) :
    NVar (((w.alloc (.cells #[.bool bx, .slice a1 xn.length c1, .slice a2 xd.length c2] 57)).alloc (.cells #[.bool cy, .slice a3 yn.length c3, .slice a4 yd.length c4] 57)).alloc (.cells #[.bool dz, .slice a5 zn.length c5, .slice a6 zd.length c6] 57)) w.heap.size bx a1 xn c1 a2 xd c2 ∧
    NVar (((w.alloc (.cells #[.bool bx, .slice a1 xn.length c1, .slice a2 xd.length c2] 57)).alloc (.cells #[.bool cy, .slice a3 yn.length c3, .slice a4 yd.length c4] 57)).alloc (.cells #[.bool dz, .slice a5 zn.length c5, .slice a6 zd.length c6] 57)) (w.heap.size + 1) cy a3 yn c3 a4 yd c4 ∧
    NVar (((w.alloc (.cells #[.bool bx, .slice a1 xn.length c1, .slice a2 xd.length c2] 57)).alloc (.cells #[.bool cy, .slice a3 yn.length c3, .slice a4 yd.length c4] 57)).alloc (.cells #[.bool dz, .slice a5 zn.length c5, .slice a6 zd.length c6] 57)) (w.heap.size + 1 + 1) dz a5 zn c5 a6 zd c6 ∧
    Below w.heap.size w (((w.alloc (.cells #[.bool bx, .slice a1 xn.length c1, .slice a2 xd.length c2] 57)).alloc (.cells #[.bool cy, .slice a3 yn.length c3, .slice a4 yd.length c4] 57)).alloc (.cells #[.bool dz, .slice a5 zn.length c5, .slice a6 zd.length c6] 57)) := by
  obtain ⟨X, Y, b2⟩ := nvar_in2 (bx := bx) (cy := cy) h1 h2 h3 h4
  have Z := nvar_new (b := dz) ((h5.below b2).mono b2.size) ((h6.below b2).mono b2.size)
  rw [World.size_alloc, World.size_alloc] at Z
  exact ⟨X.below (below_alloc _ _), Y.below (below_alloc _ _), Z, b2.alloc (by simp <;> omega) _⟩
/-- Two numbers are laid into a list. -/
theorem nvar_two {k j : Nat} (X : NVar w k bx a1 xn c1 a2 xd c2) (Y : NVar w j cy a3 yn c3 a4 yd c4) :
    Two (w.alloc (.cells #[.bool bx, .slice a1 xn.length c1, .slice a2 xd.length c2, .bool cy, .slice a3 yn.length c3, .slice a4 yd.length c4] 57)) w.heap.size (.bool bx) (.slice a1 xn.length c1) (.slice a2 xd.length c2) (.bool cy) (.slice a3 yn.length c3) (.slice a4 yd.length c4) ∧
    NVar (w.alloc (.cells #[.bool bx, .slice a1 xn.length c1, .slice a2 xd.length c2, .bool cy, .slice a3 yn.length c3, .slice a4 yd.length c4] 57)) k bx a1 xn c1 a2 xd c2 ∧
    NVar (w.alloc (.cells #[.bool bx, .slice a1 xn.length c1, .slice a2 xd.length c2, .bool cy, .slice a3 yn.length c3, .slice a4 yd.length c4] 57)) j cy a3 yn c3 a4 yd c4 ∧
    Below w.heap.size w (w.alloc (.cells #[.bool bx, .slice a1 xn.length c1, .slice a2 xd.length c2, .bool cy, .slice a3 yn.length c3, .slice a4 yd.length c4] 57)) :=
  ⟨two_new _ _ _ _ _ _ _ _, X.below (below_alloc _ _), Y.below (below_alloc _ _), below_alloc _ _⟩
end
end Go.Proofs.YtadkbcehhdcfaaaDoor

/- ref01.Same and ref02.Same of what reads the same: true. -/
namespace Go.Proofs.YtadkbcehhdcfaaaDoor
set_option linter.unusedVariables false
set_option linter.unusedSimpArgs false
open Go.RowKit

set_option maxHeartbeats 800000 in
theorem same_walk (b1 o1 c1 b2 o2 c2 n : Nat) (xs : List Int) (w : World) (hb : n ≤ 9223372036854775807)
    (k1 : ∀ j, j < n → w.cell? ⟨b1, o1 + j, none⟩ = some (.int .u32 (xs.getD j 0)))
    (k2 : ∀ j, j < n → w.cell? ⟨b2, o2 + j, none⟩ = some (.int .u32 (xs.getD j 0))) :
    Calls Tryd.prog 47 #[.slice (some ⟨b1, o1, none⟩) n c1, .slice (some ⟨b2, o2, none⟩) n c2] w fun e w' => e = .returned (.bool true) ∧ ∃ q, w' = w.drewN q := by
  have K1 : Hid (∀ j, j < n → w.cell? ⟨b1, o1 + j, none⟩ = some (.int .u32 (xs.getD j 0))) := k1
  have K2 : Hid (∀ j, j < n → w.cell? ⟨b2, o2 + j, none⟩ = some (.int .u32 (xs.getD j 0))) := k2
  clear k1 k2
  go_enter Tryd.func47, Tryd.ntmps47
  go_wp2
  go_loopw [5] (fun s wr => (∃ q, wr = w.drewN q) ∧ ∃ j : Nat, j ≤ n ∧ s = .int .i64 j) (fun s _ => n - (intOf s).toNat)
  case atStart => exact ⟨⟨0, rfl⟩, 0, Nat.zero_le _, rfl⟩
  case round =>
    obtain ⟨⟨q, rfl⟩, j, hj, rfl⟩ := hrel
    by_cases hlt : j < n
    · have g1 := K1.out j hlt
      have g2 := K2.out j hlt
      generalize xs.getD j 0 = p at *
      go_wp2
      go_quiet (fail)
      go_wp2
      go_roundw
      case rel => exact ⟨⟨_, rfl⟩, j + 1, by omega, by go_num⟩
      case measure => simp [intOf]; omega
    · go_wp2
      go_ret
      exact ⟨rfl, _, rfl⟩

theorem same_nil (a1 a2 : Option Addr) (c1 c2 : Nat) (w : World) :
    Calls Tryd.prog 47 #[.slice a1 0 c1, .slice a2 0 c2] w fun e w' => e = .returned (.bool true) ∧ w = w' := by
  go_enter Tryd.func47, Tryd.ntmps47
  go_wp2
  refine wp_loop_rounds 1 ?_
  rw [rounds_succ]
  go_wp2
  go_ret
  exact ⟨rfl, rfl⟩

/-- Same, of two slices that read as the same limbs: true. -/
theorem same_rd {B B' : Nat} {w : World} {v1 v2 : Value} {xs : List Int} (h1 : Rd B w v1 xs) (h2 : Rd B' w v2 xs) :
    Calls Tryd.prog 47 #[v1, v2] w fun e w' => e = .returned (.bool true) ∧ Below w.heap.size w w' := by
  obtain ⟨_, a1, c1, rfl, i1, j1, _, f1⟩ := h1
  obtain ⟨_, a2, c2, rfl, i2, j2, _, f2⟩ := h2
  by_cases h0 : xs.length = 0
  · rw [h0]
    refine (same_nil a1 a2 c1 c2 w).mono ?_
    rintro e w' ⟨rfl, rfl⟩
    exact ⟨rfl, Below.refl _ _⟩
  · rcases f1 with f1 | ⟨b1, o1, rfl, _, k1⟩
    · exact absurd f1 h0
    rcases f2 with f2 | ⟨b2, o2, rfl, _, k2⟩
    · exact absurd f2 h0
    refine (same_walk b1 o1 c1 b2 o2 c2 xs.length xs w (by omega) k1 k2).mono ?_
    rintro e w' ⟨rfl, q, rfl⟩
    exact ⟨rfl, below_drewN' (Below.refl _ _) q⟩

theorem below_undrew {w w' : World} {B : Nat} (h : Below B w.drew w') : Below B w w' := ⟨h.os, h.tape, h.output, h.size, h.block⟩
section
variable {w w' : World} {k j : Nat} {b : Bool} {a1 a2 a3 a4 : Option Addr} {ns ds : List Int} {c1 c2 c3 c4 : Nat}
theorem NVar.drew (h : NVar w k b a1 ns c1 a2 ds c2) : NVar w.drew k b a1 ns c1 a2 ds c2 := ⟨h.lt, h.box, h.rn, h.rd⟩
theorem NVar.cells (h : NVar w k b a1 ns c1 a2 ds c2) : w.cell? ⟨k, 0, none⟩ = some (.bool b) ∧ w.cell? ⟨k, 1, none⟩ = some (.slice a1 ns.length c1) ∧ w.cell? ⟨k, 2, none⟩ = some (.slice a2 ds.length c2) := ⟨h.k0, h.k1, h.k2⟩

end
end Go.Proofs.YtadkbcehhdcfaaaDoor
