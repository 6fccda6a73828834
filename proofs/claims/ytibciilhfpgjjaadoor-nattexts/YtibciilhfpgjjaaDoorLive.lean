/- The statements' own helpers live and few. -/
import Derived.Test.YtibciilhfpgjjaaDoorPrint1
namespace Go.Proofs.YtibciilhfpgjjaaDoor
set_option linter.unusedVariables false
set_option linter.unusedSimpArgs false
open Go.RowKit

theorem few_long (a : Option Addr) (n c : Nat) (w : World) (h : 40 < n) (hc : n ≤ c) (hb : c ≤ 9223372036854775807) :
    Calls Tryd.prog 12 #[.slice a n c] w fun e w' => e = .returned (.slice a 40 c) ∧ w = w' := by
  go_enter Tryd.func12, Tryd.ntmps12
  go_wp2
  go_ret
  exact ⟨rfl, rfl⟩
theorem few_short (a : Option Addr) (n c : Nat) (w : World) (h : ¬ 40 < n) :
    Calls Tryd.prog 12 #[.slice a n c] w fun e w' => e = .returned (.slice a n c) ∧ w = w' := by
  go_enter Tryd.func12, Tryd.ntmps12
  go_wp2
  go_ret
  exact ⟨rfl, rfl⟩

/-- few: at most the first forty limbs, in place. -/
theorem few_rd {B : Nat} {w : World} {v : Value} {xs : List Int} (h : Rd B w v xs) :
    Calls Tryd.prog 12 #[v] w fun e w' => ∃ ys a c, Hid (ys = xs.take 40) ∧ ys.length ≤ 40 ∧ e = .returned (.slice a ys.length c) ∧ Rd B w (.slice a ys.length c) ys ∧ w = w' := by
  have h0 := h
  obtain ⟨hl, a, cap, rfl, h1, h2, hn, h3⟩ := h
  by_cases hx : 40 < xs.length
  · refine (few_long a xs.length cap w hx h1 h2).mono ?_
    rintro e w' ⟨rfl, rfl⟩
    have e : (xs.take 40).length = 40 := by simp; omega
    exact ⟨xs.take 40, a, cap, rfl, by omega, by rw [e], by rw [e]; exact h0.take 40 (by omega), rfl⟩
  · refine (few_short a xs.length cap w hx).mono ?_
    rintro e w' ⟨rfl, rfl⟩
    have e : xs.take 40 = xs := List.take_of_length_le (by omega)
    exact ⟨xs, a, cap, e.symm, by omega, rfl, h0, rfl⟩

theorem limbs_of {qs : List Int} (cq : can qs) (n : Int) (h0 : 0 < n) (h1 : n < 4294967296) (h : val qs = n) : qs = [n] := by
  refine can_inj cq ⟨fun x hx => by simp at hx; omega, Or.inr (by simp; omega)⟩ ?_
  rw [h]; simp [val]

theorem of_small (n : Int) (h0 : 0 < n) (h1 : n < 4294967296) : tr [n % 4294967296, n / 4294967296] = [n] := by
  have h := of_limb n (by omega) h1
  exact limbs_of h.2.1 n h0 h1 h.1

theorem digits_1000 : (⟨(Lib.decDigits (Int.toNat 1000)).toArray⟩ : ByteArray) = ⟨#[49, 48, 48, 48]⟩ := by
  have e1 : Lib.decDigits 1000 = Lib.decDigits 100 ++ [48] := by rw [Lib.decDigits, dif_neg (by omega)]; rfl
  have e2 : Lib.decDigits 100 = Lib.decDigits 10 ++ [48] := by rw [Lib.decDigits, dif_neg (by omega)]; rfl
  have e3 : Lib.decDigits 10 = Lib.decDigits 1 ++ [48] := by rw [Lib.decDigits, dif_neg (by omega)]; rfl
  have e4 : Lib.decDigits 1 = [49] := by rw [Lib.decDigits_one (by omega)]; rfl
  show (⟨(Lib.decDigits 1000).toArray⟩ : ByteArray) = _
  rw [e1, e2, e3, e4]; rfl

set_option maxRecDepth 100000 in
set_option maxHeartbeats 1600000 in
theorem live_any (w : World) (htab : Lib.TabIs Tryd.prog w "internal/strconv.uint64pow10" .u64 Lib.pow10Tab) :
    Calls Tryd.prog 13 #[] w fun e w' => e = .returned (.bool true) ∧ Below w.heap.size w w' := by
  go_enter Tryd.func13, Tryd.ntmps13
  go_wp2_with fail
  refine (of_any 7 (by omega) (by omega) _).mono ?_
  intro e w1 hm
  rw [of_small 7 (by omega) (by omega)] at hm
  obtain ⟨a1, c1, rfl, ho1, hb1⟩ := hm
  go_wp2_with fail
  refine (of_any 2 (by omega) (by omega) _).mono ?_
  intro e w2 hm
  rw [of_small 2 (by omega) (by omega)] at hm
  obtain ⟨a2, c2, rfl, ho2, hb2⟩ := hm
  have hs1 := hb1.size
  have hs2 := hb2.size
  have hr1 : Rd w2.heap.size w2 (.slice a1 1 c1) [7] := (ho1.below hb2 (Nat.le_refl _)).rd
  have hr2 : Rd w2.heap.size w2 (.slice a2 1 c2) [2] := ho2.rd
  have c2' : can [(2 : Int)] := ⟨fun x hx => by simp at hx; omega, Or.inr (by decide)⟩
  have ht2 : tr [(2 : Int)] = [2] := by decide
  go_wp2_with fail
  refine (divMod_pos hr1 (Nat.le_refl _) hr2 (Nat.le_refl _) (by decide) (by rw [ht2]; exact byOK_one 2 c2') (by simp) (by simp)).mono ?_
  rintro e w3 ⟨qs, rs, a3, c3, a4, c4, rfl, hoq, hor, cq, cr, hval, hlt, _, _, hb3⟩
  have v7 : val [(7 : Int)] = 7 := by decide
  have v2 : val [(2 : Int)] = 2 := by decide
  have hrn := (val_bound cr.1).1
  rw [v7, v2] at hval
  rw [v2] at hlt
  have hq3 : val qs = 3 := by omega
  have hr1' : val rs = 1 := by omega
  have eq3 := limbs_of cq 3 (by omega) (by omega) hq3
  have er1 := limbs_of cr 1 (by omega) (by omega) hr1'
  subst eq3 er1
  clear hval hlt hrn hq3 hr1' hr1 hr2 v7 v2 ht2
  rcases hoq.shape with ⟨_, h⟩ | ⟨g3, _, hv3, _, hg3, _, _⟩
  · cases h
  rcases hor.shape with ⟨_, h⟩ | ⟨g4, _, hv4, _, hg4, _, _⟩
  · cases h
  have ha3 : a3 = some ⟨g3, 0, none⟩ := by
    have := congrArg (fun v : Value => match v with | .slice a _ _ => a | _ => none) hv3
    exact this
  have ha4 : a4 = some ⟨g4, 0, none⟩ := by
    have := congrArg (fun v : Value => match v with | .slice a _ _ => a | _ => none) hv4
    exact this
  subst ha3 ha4
  have hc3 : w3.cell? ⟨g3, 0, none⟩ = some (.int .u32 3) := hoq.cellAt rfl 0 (by simp)
  have hc4 : w3.cell? ⟨g4, 0, none⟩ = some (.int .u32 1) := hor.cellAt rfl 0 (by simp)
  have hs3 := hb3.size
  have hbw3 : Below w.heap.size w w3 := hb1.trans ((hb2.mono hs1).trans (hb3.mono (by omega)))
  have htab3 := tabIs_below htab hbw3
  clear hv3 hv4
  go_wp2_with fail
  refine (of_any 1000 (by omega) (by omega) _).mono ?_
  intro e w4 hm
  rw [of_small 1000 (by omega) (by omega)] at hm
  obtain ⟨a5, c5, rfl, ho5, hb5⟩ := hm
  have htab4 := tabIs_below htab3 hb5
  have v1000 : val [(1000 : Int)] = 1000 := by decide
  go_wp2_with fail
  refine (print_small ho5.rd (Nat.le_refl _) (by simp) (by rw [v1000]; omega) htab4).mono ?_
  rintro e w5 ⟨rfl, hb6⟩
  rw [v1000, digits_1000]
  go_wp2
  go_ret
  have hs5 := hb5.size
  exact ⟨rfl, hbw3.trans ((hb5.mono (by omega)).trans (hb6.mono (by omega)))⟩
end Go.Proofs.YtibciilhfpgjjaaDoor
