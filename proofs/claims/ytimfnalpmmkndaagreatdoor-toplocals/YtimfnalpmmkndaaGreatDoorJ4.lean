/- rat.fold of two numbers, by rat.plus. -/
import Derived.Test.YtimfnalpmmkndaaGreatDoorJ3
import Derived.Lib.ItoaNum
import Derived.Test.YtimfnalpmmkndaaGreatDoorJ2
namespace Go.Proofs.YtimfnalpmmkndaaGreatDoor
set_option linter.unusedVariables false
set_option linter.unusedSimpArgs false
open Go.RowKit

section
variable {B Lb : Nat} {w : World} {bx cy : Bool} {a1 a2 a3 a4 : Option Addr} {c1 c2 c3 c4 : Nat} {xn xd yn yd : List Int}

end
end Go.Proofs.YtimfnalpmmkndaaGreatDoor

/- rat.plus. -/
namespace Go.Proofs.YtimfnalpmmkndaaGreatDoor
set_option linter.unusedVariables false
set_option linter.unusedSimpArgs false
open Go.RowKit

/-- What rat.plus needs of a number. -/
def Weak (ns ds : List Int) : Prop := ns.length ≤ 32 ∧ ds.length ≤ 32 ∧ 0 < val ds
theorem RightP.weak {b : Bool} {ns ds : List Int} (h : RightP b ns ds) : Weak ns ds := ⟨h.1, h.2.1, (right_pos h).1⟩

end Go.Proofs.YtimfnalpmmkndaaGreatDoor

/- rat.OfInt of 0 and 1; rat.Mul and rat.Add of two. -/
namespace Go.Proofs.YtimfnalpmmkndaaGreatDoor
set_option linter.unusedVariables false
set_option linter.unusedSimpArgs false
open Go.RowKit

section
variable {B Lb : Nat} {w : World} {bx cy : Bool} {a1 a2 a3 a4 : Option Addr} {c1 c2 c3 c4 : Nat} {xn xd yn yd : List Int}

end
end Go.Proofs.YtimfnalpmmkndaaGreatDoor

/- rat.by. -/
namespace Go.Proofs.YtimfnalpmmkndaaGreatDoor
set_option linter.unusedVariables false
set_option linter.unusedSimpArgs false
open Go.RowKit

end Go.Proofs.YtimfnalpmmkndaaGreatDoor

/- rat.Div of a number by itself. -/
namespace Go.Proofs.YtimfnalpmmkndaaGreatDoor
set_option linter.unusedVariables false
set_option linter.unusedSimpArgs false
open Go.RowKit

end Go.Proofs.YtimfnalpmmkndaaGreatDoor

/- rat.difference. -/
namespace Go.Proofs.YtimfnalpmmkndaaGreatDoor
set_option linter.unusedVariables false
set_option linter.unusedSimpArgs false
open Go.RowKit

end Go.Proofs.YtimfnalpmmkndaaGreatDoor

/- rat.Compare. -/
namespace Go.Proofs.YtimfnalpmmkndaaGreatDoor
set_option linter.unusedVariables false
set_option linter.unusedSimpArgs false
open Go.RowKit

section
variable {B : Nat} {w : World} {bx cy : Bool} {a1 a2 a3 a4 : Option Addr} {c1 c2 c3 c4 : Nat} {xn xd yn yd : List Int}

end
end Go.Proofs.YtimfnalpmmkndaaGreatDoor

/- Plain facts on decimal digits: what number they say; how the digits of a number lie in groups of nine. No program is named. -/
namespace Go.Proofs.YtimfnalpmmkndaaGreatDoor
set_option linter.unusedVariables false
set_option linter.unusedSimpArgs false
open Go.Lib

/-- The number that digits say. -/
def dval (l : List UInt8) : Nat := l.foldl (fun a b => a * 10 + (b.toNat - 48)) 0
/-- Each one a digit. -/
def digs (l : List UInt8) : Prop := ∀ b ∈ l, 48 ≤ b.toNat ∧ b.toNat ≤ 57

theorem dval_from (l : List UInt8) (a : Nat) : l.foldl (fun a b => a * 10 + (b.toNat - 48)) a = a * 10 ^ l.length + dval l := by
 induction l generalizing a with
 | nil => simp [dval]
 | cons b l ih =>
  unfold dval
  simp only [List.foldl_cons, List.length_cons]
  rw [ih, ih (0 * 10 + (b.toNat - 48)), Nat.pow_succ]
  simp only [Nat.zero_mul, Nat.zero_add, Nat.add_mul, Nat.mul_assoc, Nat.mul_comm 10]
  omega
theorem dval_append (k l : List UInt8) : dval (k ++ l) = dval k * 10 ^ l.length + dval l := by
 show (k ++ l).foldl _ 0 = _
 rw [List.foldl_append, dval_from]; rfl
theorem dval_snoc (l : List UInt8) (b : UInt8) : dval (l ++ [b]) = dval l * 10 + (b.toNat - 48) := by
 rw [dval_append]; simp [dval]
theorem digit_toNat (d : Nat) (h : d < 10) : (UInt8.ofNat (48 + d)).toNat = 48 + d := by
 rw [UInt8.toNat_ofNat']; omega

theorem dval_decDigits (u : Nat) : dval (decDigits u) = u ∧ digs (decDigits u) ∧ 0 < (decDigits u).length := by
 induction u using Nat.strongRecOn with
 | _ u ih =>
  by_cases h : u < 10
  · rw [decDigits, dif_pos h]
    refine ⟨?_, ?_, by simp⟩
    · simp only [dval, List.foldl_cons, List.foldl_nil, digit_toNat u h]; omega
    · intro b hb
      rw [List.mem_singleton] at hb; subst hb
      rw [digit_toNat u h]; omega
  · rw [decDigits, dif_neg h]
    obtain ⟨h1, h2, h3⟩ := ih (u / 10) (by omega)
    refine ⟨?_, ?_, by simp⟩
    · rw [dval_snoc, h1, digit_toNat _ (by omega)]; omega
    · intro b hb
      rw [List.mem_append] at hb
      rcases hb with hb | hb
      · exact h2 b hb
      · rw [List.mem_singleton] at hb; subst hb
        rw [digit_toNat _ (by omega)]; omega

/-- The k lowest digits of a number. -/
def low (k g : Nat) : List UInt8 := match k with
 | 0 => []
 | k + 1 => low k (g / 10) ++ [UInt8.ofNat (48 + g % 10)]
theorem low_length (k g : Nat) : (low k g).length = k := by
 induction k generalizing g with
 | zero => rfl
 | succ k ih => simp [low, ih]
theorem low_zero (k : Nat) : low k 0 = List.replicate k 48 := by
 induction k with
 | zero => rfl
 | succ k ih => simp only [low, ih, Nat.zero_div]; rw [List.replicate_succ']; rfl
/-- The k lowest digits of a number that has no more: noughts, and its digits. -/
theorem low_pad (k g : Nat) (hk : 1 ≤ k) (hg : g < 10 ^ k) : low k g = List.replicate (k - (decDigits g).length) 48 ++ decDigits g := by
 induction k generalizing g with
 | zero => omega
 | succ k ih =>
  by_cases h : g < 10
  · rw [decDigits, dif_pos h]
    simp only [low]
    rw [Nat.div_eq_of_lt h, Nat.mod_eq_of_lt h, low_zero]
    rfl
  · rw [decDigits, dif_neg h]
    simp only [low]
    have hk1 : 1 ≤ k := by
     by_cases h0 : k = 0
     · subst h0; simp at hg; omega
     · omega
    rw [ih (g / 10) hk1 (by rw [Nat.pow_succ] at hg; omega), List.append_assoc]
    congr 2
    simp
theorem decDigits_le (k g : Nat) (hk : 1 ≤ k) (hg : g < 10 ^ k) : (decDigits g).length ≤ k := by
 have h1 := low_length k g
 rw [low_pad k g hk hg, List.length_append, List.length_replicate] at h1
 omega
end Go.Proofs.YtimfnalpmmkndaaGreatDoor

/- strings.Repeat of a nought, at most eight times; strings.HasPrefix. -/
namespace Go.Proofs.YtimfnalpmmkndaaGreatDoor
set_option linter.unusedVariables false
set_option linter.unusedSimpArgs false
open Go.RowKit

theorem hasPrefixI (s t : ByteArray) (r : Bool) (w : World) (hst : t.size ≤ s.size) (hb : s.size ≤ 1000000) (hr : ((s.extract 0 t.size).toList == t.toList) = r) : Calls Tryz.prog 180 #[.string s, .string t] w fun e w' => e = .returned (.bool r) ∧ w = w' := by
 subst hr
 go_enter Tryz.func180, Tryz.ntmps180
 go_wp2
 go_ret
 exact ⟨rfl, rfl⟩

theorem hasPrefix (s t : ByteArray) (r : Bool) (w : World) (hst : t.size ≤ s.size) (hb : s.size ≤ 1000000) (hr : ((s.extract 0 t.size).toList == t.toList) = r) : Calls Tryz.prog 155 #[.string s, .string t] w fun e w' => e = .returned (.bool r) ∧ w = w' := by
 go_enter Tryz.func155, Tryz.ntmps155
 go_wp2_with fail
 refine (hasPrefixI s t r w hst hb hr).mono ?_
 rintro e w' ⟨rfl, rfl⟩
 go_wp2
 go_ret
 exact ⟨rfl, rfl⟩

def noughts (k : Nat) : ByteArray := ⟨(List.replicate k (48 : UInt8)).toArray⟩

end Go.Proofs.YtimfnalpmmkndaaGreatDoor

/- nat.Print at whatever number: its decimal digits. -/
namespace Go.Proofs.YtimfnalpmmkndaaGreatDoor
set_option linter.unusedVariables false
set_option linter.unusedSimpArgs false
open Go.RowKit

end Go.Proofs.YtimfnalpmmkndaaGreatDoor

/- rat.Print of a right number. -/
namespace Go.Proofs.YtimfnalpmmkndaaGreatDoor
set_option linter.unusedVariables false
set_option linter.unusedSimpArgs false
open Go.RowKit

theorem pw_tens (L : Nat) : pw L ≤ ((10 ^ (10 * L) : Nat) : Int) := by
 induction L with
 | zero => decide
 | succ L ih =>
  rw [pw_succ, Nat.mul_succ, Nat.pow_add, Int.natCast_mul]
  have h1 : (0 : Int) ≤ ((10 ^ (10 * L) : Nat) : Int) := Int.natCast_nonneg _
  have e : ((10 ^ 10 : Nat) : Int) = 10000000000 := by decide
  rw [e]
  have := pw_pos L
  generalize ((10 ^ (10 * L) : Nat) : Int) = T at *
  omega
theorem dig_bound {xs : List Int} (h : lim xs) : (Lib.decDigits (val xs).toNat).length ≤ 10 * xs.length + 1 := by
 refine decDigits_le (10 * xs.length + 1) _ (by omega) ?_
 have h1 := pw_tens xs.length
 have h2 : 10 ^ (10 * xs.length) ≤ 10 ^ (10 * xs.length + 1) := Nat.pow_le_pow_right (by decide) (by omega)
 have h3 := val_bound h
 omega

def digB (xs : List Int) : ByteArray := ⟨(Lib.decDigits (val xs).toNat).toArray⟩
/-- A number's text. -/
def ratText (b : Bool) (ns ds : List Int) : ByteArray :=
 let t := if b = true then (⟨#[194, 175]⟩ : ByteArray) ++ digB ns else digB ns
 if ds = [1] then t else t ++ ((⟨#[114]⟩ : ByteArray) ++ digB ds)

end Go.Proofs.YtimfnalpmmkndaaGreatDoor

/- Plain facts on rationals: sums and products go together; lowest terms are unique. -/
namespace Go.Proofs.YtimfnalpmmkndaaGreatDoor
set_option linter.unusedVariables false
set_option linter.unusedSimpArgs false
open Go.RowKit

theorem cancel {a b k : Int} (hk : 0 < k) (h : a * k = b * k) : a = b := Int.eq_of_mul_eq_mul_right (by omega) h

/-- Lowest terms are unique. -/
theorem lowest {b c : Bool} {ns ds ms es : List Int} (h : RightP b ns ds) (k : RightP c ms es) (e : sg b (val ns) * val es = sg c (val ms) * val ds) : b = c ∧ ns = ms ∧ ds = es := by
 have hp := right_pos h
 have kp := right_pos k
 have hz : ∀ {b : Bool} {ns ds : List Int}, RightP b ns ds → val ns = 0 → b = false := by
  intro b ns ds h hv
  have h1 := (can_zero h.2.2.1).2 hv
  cases b with
  | false => rfl
  | true => exact absurd ⟨rfl, h1⟩ h.2.2.2.2.1
 have hab : val ns * val es = val ms * val ds ∧ b = c := by
  have n1 : 0 ≤ val ns * val es := Int.mul_nonneg hp.2 (by omega)
  have n2 : 0 ≤ val ms * val ds := Int.mul_nonneg kp.2 (by omega)
  rw [← sg_mul, ← sg_mul] at e
  have zero : val ns * val es = 0 → val ms * val ds = 0 → b = c := by
   intro z1 z2
   have y1 : val ns = 0 := by
    rcases Int.mul_eq_zero.1 z1 with y | y
    · exact y
    · omega
   have y2 : val ms = 0 := by
    rcases Int.mul_eq_zero.1 z2 with y | y
    · exact y
    · omega
   rw [hz h y1, hz k y2]
  unfold sg at e
  generalize val ns * val es = p at *
  generalize val ms * val ds = q at *
  cases b <;> cases c <;> simp at e
  · exact ⟨e, rfl⟩
  · have : p = 0 ∧ q = 0 := by omega
    exact ⟨by omega, zero this.1 this.2⟩
  · have : p = 0 ∧ q = 0 := by omega
    exact ⟨by omega, zero this.1 this.2⟩
  · exact ⟨by omega, rfl⟩
 obtain ⟨hm, hbc⟩ := hab
 obtain ⟨n, en⟩ := Int.eq_ofNat_of_zero_le hp.2
 obtain ⟨d, ed⟩ := Int.eq_ofNat_of_zero_le (Int.le_of_lt hp.1)
 obtain ⟨m, em⟩ := Int.eq_ofNat_of_zero_le kp.2
 obtain ⟨f, ef⟩ := Int.eq_ofNat_of_zero_le (Int.le_of_lt kp.1)
 have g1 : Nat.gcd n d = 1 := by
  have := h.2.2.2.2.2.2
  rw [en, ed] at this
  unfold gI at this
  simp only [Int.toNat_natCast] at this
  omega
 have g2 : Nat.gcd m f = 1 := by
  have := k.2.2.2.2.2.2
  rw [em, ef] at this
  unfold gI at this
  simp only [Int.toNat_natCast] at this
  omega
 rw [en, ed, em, ef] at hm
 have hmn : n * f = m * d := by exact_mod_cast hm
 have d1 : d ∣ f := (Nat.Coprime.dvd_of_dvd_mul_left (show Nat.Coprime d n by rw [Nat.coprime_comm]; exact g1) ⟨m, by rw [hmn, Nat.mul_comm]⟩)
 have d2 : f ∣ d := (Nat.Coprime.dvd_of_dvd_mul_left (show Nat.Coprime f m by rw [Nat.coprime_comm]; exact g2) ⟨n, by rw [← hmn, Nat.mul_comm]⟩)
 have hdf : d = f := Nat.dvd_antisymm d1 d2
 subst hdf
 have hd0 : 0 < d := by omega
 have hnm : n = m := Nat.eq_of_mul_eq_mul_right hd0 hmn
 exact ⟨hbc, can_inj h.2.2.1 k.2.2.1 (by rw [en, em, hnm]), can_inj h.2.2.2.1 k.2.2.2.1 (by rw [ed, ef])⟩

/-- The lists that an answer reads as, whatever it is. -/
theorem Out.lists {w' : World} {k : Nat} {P : Prop} {N D err : Int} {b : Bool} {x1 x2 : Option Addr} {n m y1 y2 : Nat} (h : Out w' k P N D b x1 n y1 x2 m y2 err) :
    ∃ ns ds, n = ns.length ∧ m = ds.length ∧ Rd w'.heap.size w' (.slice x1 ns.length y1) ns ∧ Rd w'.heap.size w' (.slice x2 ds.length y2) ds ∧ Hid ((err = 0 → P ∧ RightP b ns ds ∧ sg b (val ns) * D = N * val ds) ∧ (¬ P → err = 22)) := by
 have nil : Rd w'.heap.size w' (.slice none 0 0) [] := Own.rd (base := 0) ⟨lim_nil, World.ownsRow_nil _ _ _ _⟩
 rcases h with ⟨hp, rfl, rfl, rfl, rfl, rfl, rfl, rfl, rfl⟩ | ⟨hp, rfl, rfl, rfl, rfl, rfl, rfl, rfl, rfl, _⟩ | ⟨hp, rfl, ns, ds, rfl, rfl, on, od, hr, hv⟩
 · exact ⟨[], [], rfl, rfl, nil, nil, (fun h => by omega), fun _ => rfl⟩
 · exact ⟨[], [], rfl, rfl, nil, nil, (fun h => by omega), fun h => absurd hp h⟩
 · exact ⟨ns, ds, rfl, rfl, on.rd, od.rd, (fun _ => ⟨hp, hr, hv⟩), fun h => absurd hp h⟩
end Go.Proofs.YtimfnalpmmkndaaGreatDoor

/- A variable of a number: its block, and what its limbs read as. -/
namespace Go.Proofs.YtimfnalpmmkndaaGreatDoor
set_option linter.unusedVariables false
set_option linter.unusedSimpArgs false
open Go.RowKit

structure NVar (w : World) (k : Nat) (b : Bool) (a1 : Option Addr) (ns : List Int) (c1 : Nat) (a2 : Option Addr) (ds : List Int) (c2 : Nat) : Prop where
 lt : k < w.heap.size
 box : Box3 w k 110 (.bool b) (.slice a1 ns.length c1) (.slice a2 ds.length c2)
 rn : Rd w.heap.size w (.slice a1 ns.length c1) ns
 rd : Rd w.heap.size w (.slice a2 ds.length c2) ds
section
variable {w w' : World} {k : Nat} {b : Bool} {a1 a2 : Option Addr} {ns ds : List Int} {c1 c2 : Nat}
theorem NVar.below (h : NVar w k b a1 ns c1 a2 ds c2) (hb : Below w.heap.size w w') : NVar w' k b a1 ns c1 a2 ds c2 :=
 ⟨Nat.lt_of_lt_of_le h.lt hb.size, h.box.below hb h.lt, (h.rn.below hb).mono hb.size, (h.rd.below hb).mono hb.size⟩
theorem NVar.k0 (h : NVar w k b a1 ns c1 a2 ds c2) : w.cell? ⟨k, 0, none⟩ = some (.bool b) := h.box.c0
theorem NVar.k1 (h : NVar w k b a1 ns c1 a2 ds c2) : w.cell? ⟨k, 1, none⟩ = some (.slice a1 ns.length c1) := h.box.c1
theorem NVar.k2 (h : NVar w k b a1 ns c1 a2 ds c2) : w.cell? ⟨k, 2, none⟩ = some (.slice a2 ds.length c2) := h.box.c2
theorem nvar_new (hn : Rd w.heap.size w (.slice a1 ns.length c1) ns) (hd : Rd w.heap.size w (.slice a2 ds.length c2) ds) : NVar (w.alloc (.cells #[.bool b, .slice a1 ns.length c1, .slice a2 ds.length c2] 110)) w.heap.size b a1 ns c1 a2 ds c2 :=
 ⟨by simp, box3_new _ _ _ _ _, (hn.below (below_alloc _ _)).mono (by simp), (hd.below (below_alloc _ _)).mono (by simp)⟩
end
section
variable {w : World} {bx cy dz : Bool} {a1 a2 a3 a4 a5 a6 : Option Addr} {c1 c2 c3 c4 c5 c6 : Nat} {xn xd yn yd zn zd : List Int}
end
end Go.Proofs.YtimfnalpmmkndaaGreatDoor

/- ref01.Same and ref02.Same of what reads the same: true. -/
namespace Go.Proofs.YtimfnalpmmkndaaGreatDoor
set_option linter.unusedVariables false
set_option linter.unusedSimpArgs false
open Go.RowKit

theorem below_undrew {w w' : World} {B : Nat} (h : Below B w.drew w') : Below B w w' := ⟨h.os, h.tape, h.output, h.size, h.block⟩
section
variable {w w' : World} {k j : Nat} {b : Bool} {a1 a2 a3 a4 : Option Addr} {ns ds : List Int} {c1 c2 c3 c4 : Nat}
theorem NVar.drew (h : NVar w k b a1 ns c1 a2 ds c2) : NVar w.drew k b a1 ns c1 a2 ds c2 := ⟨h.lt, h.box, h.rn, h.rd⟩
theorem NVar.cells (h : NVar w k b a1 ns c1 a2 ds c2) : w.cell? ⟨k, 0, none⟩ = some (.bool b) ∧ w.cell? ⟨k, 1, none⟩ = some (.slice a1 ns.length c1) ∧ w.cell? ⟨k, 2, none⟩ = some (.slice a2 ds.length c2) := ⟨h.k0, h.k1, h.k2⟩

end
end Go.Proofs.YtimfnalpmmkndaaGreatDoor
