/- ref03.Items of a right array; the arrays of texts in quotes are right. -/
import Derived.Test.YthfmicokddcglaaGreatDoorKA
import Derived.Test.YthfmicokddcglaaGreatDoorK7
import Derived.Test.YthfmicokddcglaaGreatDoorK8
import Derived.Test.YthfmicokddcglaaGreatDoorK12
import Derived.Test.YthfmicokddcglaaGreatDoorLE
namespace Go.Proofs.YthfmicokddcglaaGreatDoor
set_option linter.unusedVariables false
set_option linter.unusedSimpArgs false
open Go.RowKit

section
variable {D : Nat → Prop} {f : Nat} {W : World} {x1 : Option Addr} {n1 y1 : Nat} {x2 : Option Addr} {n2 y2 : Nat} {t : Tr}
set_option maxRecDepth 100000 in
set_option maxHeartbeats 6400000 in
theorem refItems3_any (hD : ∀ g, D g → g < W.heap.size) (h : ArV f D W (.slice x1 n1 y1) (.slice x2 n2 y2) t) (hS : smF f t) (hR : (measF 16 t).isSome = true) :
    Calls Tryz.prog 8 #[.agg #[.slice x1 n1 y1, .slice x2 n2 y2]] W fun e w' => (((sizeF t.ns).1 = 0 ∧ e = .returned (.slice none 0 0)) ∨ (¬ (sizeF t.ns).1 = 0 ∧ ∃ z1 m1 u1 z2 m2 u2, e = .returned (.slice z2 m2 u2) ∧ ArV f (Fr W.heap.size w'.heap.size) w' (.slice z1 m1 u1) (.slice z2 m2 u2) t)) ∧ Below W.heap.size W w' := by
  obtain ⟨f, rfl⟩ : ∃ g, f = g + 1 := by
    cases f with
    | zero => exact h.elim
    | succ g => exact ⟨g, rfl⟩
  obtain rfl := h.1.len
  have k0 := below_alloc W (.cells #[.slice x1 t.ns.length y1, .slice x2 n2 y2] 35)
  have X0 := boxA_new W #[.slice x1 t.ns.length y1, .slice x2 n2 y2] 35
  have s0 : W.heap.size < (W.alloc (.cells #[.slice x1 t.ns.length y1, .slice x2 n2 y2] 35)).heap.size := by simp
  have z0 := X0.cell 0 rfl
  have z1 := X0.cell 1 rfl
  have H : Hid (ArV (f + 1) D W (.slice x1 t.ns.length y1) (.slice x2 n2 y2) t) := h
  have HD : Hid (∀ g, D g → g < W.heap.size) := hD
  have HSM : Hid (smF (f + 1) t) := hS
  obtain ⟨L', hL', m1, m2, m3, m4, m5⟩ := measF_some hR
  have HR : Hid ((measF 16 t).isSome = true) := hR
  have HZ : Hid ((sizeF t.ns).2 = 0) := m2
  clear h hD hR hS m1 m2 m3 m4 m5 hL'
  go_enter Tryz.func8, Tryz.ntmps8
  go_wp2_with fail
  generalize hA : W.alloc (.cells #[.slice x1 t.ns.length y1, .slice x2 n2 y2] 35) = v at *
  clear hA
  refine (refSize3_any ((H.out.agree (Agree.of k0 HD.out)).1) (fun g hg => by have := HD.out g hg; omega)).mono ?_
  rintro e w1 ⟨rfl, hw⟩
  obtain rfl := hw.symm
  rw [HZ.out]
  by_cases hn : (sizeF t.ns).1 = 0
  · have HN0 : Hid ((sizeF t.ns).1 = 0) := hn
    have e0 : ((sizeF t.ns).1 == 0) = true := by rw [beq_iff_eq]; exact hn
    clear hn
    go_wp2
    go_ret
    exact ⟨Or.inl ⟨HN0.out, rfl⟩, k0⟩
  have e0 : ((sizeF t.ns).1 == 0) = false := by rw [beq_eq_false_iff_ne]; exact hn
  have HN0 : Hid (¬ (sizeF t.ns).1 = 0) := hn
  clear hn
  go_wp2_with fail
  refine (refRight3_any (fun g hg => by have := HD.out g hg; omega) (H.out.agree (Agree.of k0 HD.out))).mono ?_
  rintro e w1 ⟨rfl, q1⟩
  rw [HR.out]
  have X1 := X0.below q1 s0
  have l1 := X1.lt
  have k1 : Below W.heap.size W w1 := k0.trans (q1.mono (by omega))
  have v0 := X1.cell 0 rfl
  have v1 := X1.cell 1 rfl
  clear z0 z1
  go_wp2_with fail
  refine (refCopy3_any (H.out.agree (Agree.of k1 HD.out)) (fun g hg => by have := HD.out g hg; omega) HSM.out).mono ?_
  rintro e w2 ⟨z1, m1, u1, z2, m2, u2, rfl, hv, q2⟩
  have HV : Hid (ArV (f + 1) (Fr w1.heap.size w2.heap.size) w2 (.slice z1 m1 u1) (.slice z2 m2 u2) t) := hv
  have k2 : Below W.heap.size W w2 := k1.trans (q2.mono (by omega))
  have hfl : (Instr.field 35 (.agg #[.slice z1 m1 u1, .slice z2 m2 u2]) 1).run Tryz.prog w2 = .ok (.slice z2 m2 u2) w2 := by kernel_rfl
  clear hv
  go_wp2
  go_ret
  exact ⟨Or.inr ⟨HN0.out, _, _, _, _, _, _, rfl, HV.out.mono (fun g hg => ⟨by have := hg.1; omega, hg.2⟩)⟩, k2⟩
end
theorem char_meas {c : Int} (M : Tr → Option (Int × Int)) (hc : okRune c) : measI M (charT c) = some (0, 0) := by
  unfold measI
  rw [if_neg (show ¬ (charT c).k = 1 from (by decide : ¬ (2 : Int) = 1)), if_pos (show (charT c).k = 2 from rfl), if_pos ⟨by unfold okRune at hc; show okR c; unfold okR; omega, rfl, rfl⟩]
/-- The array of a text in quotes is right, and holds the characters. -/
theorem qA_right {cs : List Int} (hok : ∀ c ∈ cs, okRune c) (hl : cs.length ≤ 1024) : (measF 16 (qA cs)).isSome = true ∧ smF 1 (qA cs) ∧ (sizeF (qA cs).ns).1 = (cs.length : Int) ∧ (¬ cs.length = 0 → (qA cs).kids = cs.map charT) := by
  have h32 : okRune 32 := by unfold okRune; omega
  unfold qA
  by_cases h1 : cs.length = 1
  · rw [if_pos h1]
    obtain ⟨c, rfl⟩ : ∃ c, cs = [c] := List.length_eq_one_iff.1 h1
    have hc := hok c (by simp)
    have e0 : sizeF ([] : List Int) = (1, 0) := by decide
    refine ⟨?_, ?_, ?_, fun _ => rfl⟩
    · show (measF 16 (arrT [] [charT c])).isSome = true
      rw [meas_scalar (Or.inr rfl) (char_meas _ hc)]; rfl
    · refine ⟨by show 0 * 8 ≤ _; omega, by show 1 * 96 ≤ _; omega, fun x hx => ?_⟩
      have hx : x ∈ [charT c] := hx
      rw [List.mem_singleton.1 hx]
      exact ⟨by show 0 * 4 ≤ _; omega, by show 0 * 4 ≤ _; omega, by show 0 * 48 ≤ _; omega, fun y hy => by cases hy⟩
    · show (sizeF ([] : List Int)).1 = _
      rw [e0]; rfl
  rw [if_neg h1]
  have e : sizeF (vecA cs).ns = ((cs.length : Int), 0) := size_one (by omega) (by omega)
  have hk : ∀ x ∈ (vecA cs).kids, ∃ c, okRune c ∧ x = charT c := fun x hx => by
    have hx : x ∈ (if cs = [] then [charT 32] else cs.map charT) := hx
    by_cases hz : cs = []
    · rw [if_pos hz] at hx; exact ⟨32, h32, List.mem_singleton.1 hx⟩
    · rw [if_neg hz] at hx
      obtain ⟨c, hc, rfl⟩ := List.mem_map.1 hx
      exact ⟨c, hok c hc, rfl⟩
  have hkl : ((vecA cs).kids.length : Int) = max (cs.length : Int) 1 := by
    show ((if cs = [] then [charT 32] else cs.map charT).length : Int) = _
    by_cases hz : cs = []
    · rw [if_pos hz, hz]; rfl
    · rw [if_neg hz, List.length_map]
      have := List.length_pos_iff.2 hz
      omega
  refine ⟨?_, ?_, by rw [e], fun hz => ?_⟩
  · rw [meas_simple (L := 15) (by rw [e]) (by rw [e]; exact hkl) (by show 0 < 1; omega) (fun x hx => by obtain ⟨c, hc, rfl⟩ := hk x hx; exact char_meas _ hc)]; rfl
  · refine ⟨by show 1 * 8 ≤ _; omega, by omega, fun x hx => ?_⟩
    obtain ⟨c, _, rfl⟩ := hk x hx
    exact ⟨by show 0 * 4 ≤ _; omega, by show 0 * 4 ≤ _; omega, by show 0 * 48 ≤ _; omega, fun y hy => by cases hy⟩
  · show (if cs = [] then [charT 32] else cs.map charT) = _
    rw [if_neg (fun hh => hz (by rw [hh]; rfl))]
/-- The items of a text in quotes, as the law reads them. -/
def ItQ (w : World) (z : Option Addr) (u : Nat) (cs : List Int) : Prop :=
  cs.length = 0 ∨ ∃ g o, z = some ⟨g, o, none⟩ ∧ g < w.heap.size ∧ cs.length ≤ u ∧ u ≤ 9223372036854775807 ∧ ∀ j, j < cs.length → w.cell? ⟨g, o + j * 6 + 4, none⟩ = some (.int .i32 (cs.getD j 0))
theorem kids_c (cs : List Int) (j : Nat) (hj : j < cs.length) : ((cs.map charT).getD j tr0).c = cs.getD j 0 := by
  simp only [List.getD, List.getElem?_map, List.getElem?_eq_getElem hj, Option.map_some, Option.getD_some]
  rfl
theorem items_q {base : Nat} {W : World} {x1 : Option Addr} {n1 y1 : Nat} {x2 : Option Addr} {n2 y2 : Nat} {cs : List Int} (h : TA base W x1 n1 y1 x2 n2 y2 (qA cs)) (hok : ∀ c ∈ cs, okRune c) (hl : cs.length ≤ 1024) :
    Calls Tryz.prog 8 #[.agg #[.slice x1 n1 y1, .slice x2 n2 y2]] W fun e w' => ∃ z u, e = .returned (.slice z cs.length u) ∧ cs.length ≤ u ∧ u ≤ 9223372036854775807 ∧ Hid (ItQ w' z u cs) ∧ Below W.heap.size W w' := by
  obtain ⟨D, hD, hv⟩ := h
  obtain ⟨q1, q2, q3, q4⟩ := qA_right hok hl
  refine (refItems3_any (fun g hg => by obtain ⟨_, o, ho, _⟩ := hD g hg; exact (Array.getElem?_eq_some_iff.1 ho).1) hv q2 q1).mono ?_
  rintro e w' ⟨hx, hb⟩
  rcases hx with ⟨hz, rfl⟩ | ⟨hz, z1, m1, u1, z2, m2, u2, rfl, hv'⟩
  · have h0 : cs.length = 0 := by omega
    exact ⟨none, 0, by rw [h0], by omega, by omega, Or.inl h0, hb⟩
  · have h0 : ¬ cs.length = 0 := by omega
    have hrow := hv'.2
    obtain rfl := hrow.len
    rw [q4 h0] at hrow ⊢
    obtain ⟨a, cap, e, b1, b2, b3, b4⟩ := hrow
    obtain ⟨rfl, _, rfl⟩ := Value.slice.inj e
    rw [List.length_map] at b1 b4 ⊢
    refine ⟨_, _, rfl, b1, b2, ?_, hb⟩
    rcases b4 with b4 | ⟨g, o, rfl, hg, hc⟩
    · exact absurd b4 h0
    · refine Or.inr ⟨g, o, rfl, hg.2, b1, b2, fun j hj => ?_⟩
      obtain ⟨_, _, _, _, _, _, ⟨_, _, _, _, e4, _⟩, _⟩ := hc j hj
      rw [e4, kids_c cs j hj]
end Go.Proofs.YthfmicokddcglaaGreatDoor
