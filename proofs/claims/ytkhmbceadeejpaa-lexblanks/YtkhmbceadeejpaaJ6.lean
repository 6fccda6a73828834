/- Two numbers come in, a number goes out: the variables. rat.Sub, rat.Sign. -/
import Derived.Test.YtkhmbceadeejpaaJ4
import Derived.Test.YtkhmbceadeejpaaJ5
import Derived.Test.YtkhmbceadeejpaaJ2
import Derived.Test.YtkhmbceadeejpaaJ3
import Derived.Deep.RegionHeld3
namespace Go.Proofs.Ytkhmbceadeejpaa
set_option linter.unusedVariables false
set_option linter.unusedSimpArgs false
open Go.RowKit

/-- What lies in memory where two numbers have come in, a result's variable is laid, and both were laid into a list. -/
structure In2 (w W : World) (x0 x1 x2 y0 y1 y2 : Value) : Prop where
  X : Box3 W w.heap.size 49 x0 x1 x2
  Y : Box3 W (w.heap.size + 1) 49 y0 y1 y2
  R : Box3 W (w.heap.size + 1 + 1) 49 (.bool false) (.slice none 0 0) (.slice none 0 0)
  T : Two W (w.heap.size + 1 + 1 + 1) x0 x1 x2 y0 y1 y2
  b : Below w.heap.size w W
  s : w.heap.size + 1 + 1 + 1 < W.heap.size
theorem in2_new (w : World) (x0 x1 x2 y0 y1 y2 : Value) : In2 w ((((w.alloc (.cells #[x0, x1, x2] 49)).alloc (.cells #[y0, y1, y2] 49)).alloc (.cells #[.bool false, .slice none 0 0, .slice none 0 0] 49)).alloc (.cells #[x0, x1, x2, y0, y1, y2] 49)) x0 x1 x2 y0 y1 y2 where
  X := (((box3_new w _ _ _ _).below (below_alloc _ _) (by simp)).below (below_alloc _ _) (by simp <;> omega)).below (below_alloc _ _) (by simp <;> omega)
  Y := by
    have h5 := ((box3_new (w.alloc (.cells #[x0, x1, x2] 49)) y0 y1 y2 49).below (below_alloc _ (.cells #[.bool false, .slice none 0 0, .slice none 0 0] 49)) (by simp)).below (below_alloc _ (.cells #[x0, x1, x2, y0, y1, y2] 49)) (by simp <;> omega)
    simpa using h5
  R := by
    have h5 := (box3_new ((w.alloc (.cells #[x0, x1, x2] 49)).alloc (.cells #[y0, y1, y2] 49)) (.bool false) (.slice none 0 0) (.slice none 0 0) 49).below (below_alloc _ (.cells #[x0, x1, x2, y0, y1, y2] 49)) (by simp)
    simpa using h5
  T := by
    have h5 := two_new (((w.alloc (.cells #[x0, x1, x2] 49)).alloc (.cells #[y0, y1, y2] 49)).alloc (.cells #[.bool false, .slice none 0 0, .slice none 0 0] 49)) x0 x1 x2 y0 y1 y2 49
    simp only [World.size_alloc] at h5
    exact h5
  b := (((below_alloc w _).alloc (by simp) _).alloc (by simp <;> omega) _).alloc (by simp <;> omega) _
  s := by simp

/-- An answer with an error. -/
theorem gives_err {w w2 : World} {P : Prop} {N D : Int} (hP : ¬ P) (hb : Below w.heap.size w w2) : Gives w P N D (.returned (.tuple #[.agg #[.bool false, .slice none 0 0, .slice none 0 0], .int .i64 22])) w2 :=
  ⟨hb, false, none, 0, 0, none, 0, 0, 22, rfl, Or.inl ⟨hP, rfl, rfl, rfl, rfl, rfl, rfl, rfl, rfl⟩⟩
/-- What was made is what is given. -/
theorem RMakes.gives {w w' : World} {P : Prop} {N D : Int} {e : Ending} (h : RMakes w N D e w') (hP : P) : Gives w P N D e w' := by
  obtain ⟨hb, b, x1, n, y1, x2, m, y2, err, rfl, hf⟩ := h.form
  refine ⟨hb, b, x1, n, y1, x2, m, y2, err, rfl, ?_⟩
  rcases hf.out with h | h
  · exact Or.inr (Or.inl ⟨hP, h⟩)
  · exact Or.inr (Or.inr ⟨hP, h⟩)

theorem Box3.set0 {w : World} {B ty : Nat} {x y z : Value} (h : Box3 w B ty x y z) (v : Value) : Box3 (w.setCell ⟨B, 0, none⟩ v) B ty v y z := by
  unfold Box3 at h ⊢; simp [World.setCell, Array.getElem?_modify, h]
theorem Box3.apart {w : World} {B ty : Nat} {x y z : Value} (h : Box3 w B ty x y z) {p : Addr} (hp : p.block ≠ B) (v : Value) : Box3 (w.setCell p v) B ty x y z := by
  unfold Box3 at h ⊢
  have : ¬ p.block = B := hp
  simp [World.setCell, Array.getElem?_modify, h, this]

section
variable {B : Nat} {w : World} {bx cy : Bool} {a1 a2 a3 a4 : Option Addr} {c1 c2 c3 c4 : Nat} {xn xd yn yd : List Int}

/-- What rat.Sign answers. -/
def Signs (P : Prop) (b : Bool) (ns : List Int) (e : Ending) : Prop := ∃ r : Int, e = .returned (.int .i64 r) ∧ Hid ((¬ P → r = 0) ∧ (P → r = cmpI (sg b (val ns)) 0))

end
end Go.Proofs.Ytkhmbceadeejpaa

/- What a reckoning answers, where the number is known. -/
namespace Go.Proofs.Ytkhmbceadeejpaa
set_option linter.unusedVariables false
set_option linter.unusedSimpArgs false
open Go.RowKit

/-- Lowest terms are unique, however many limbs. -/
theorem lowest_can {b c : Bool} {ns ds ms es : List Int} {N D : Int} (cn : can ns) (cd : can ds) (hd : 0 < ds.length) (hg : gI (val ns) (val ds) = 1) (h : sg b (val ns) * D = N * val ds) (hD : 0 < D) (cm : can ms) (ce : can es) (he : 0 < es.length) (kg : gI (val ms) (val es) = 1) (k : sg c (val ms) * D = N * val es) : ns = ms ∧ ds = es ∧ (0 < val ns → b = c) := by
  have dp : 0 < val ds := by have := can_low cd hd; have := pw_pos (ds.length - 1); omega
  have ep : 0 < val es := by have := can_low ce he; have := pw_pos (es.length - 1); omega
  have np := (val_bound cn.1).1
  have mp := (val_bound cm.1).1
  have e1 : sg b (val ns) * val es = sg c (val ms) * val ds := by
    refine cancel hD ?_
    have q1 : sg b (val ns) * val es * D = sg b (val ns) * D * val es := by ac_rfl
    have q2 : sg c (val ms) * val ds * D = sg c (val ms) * D * val ds := by ac_rfl
    rw [q1, q2, h, k]
    ac_rfl
  rw [← sg_mul, ← sg_mul] at e1
  have n1 : 0 ≤ val ns * val es := Int.mul_nonneg np (by omega)
  have n2 : 0 ≤ val ms * val ds := Int.mul_nonneg mp (by omega)
  have hab : val ns * val es = val ms * val ds ∧ (0 < val ns * val es → b = c) := by
    unfold sg at e1
    generalize val ns * val es = p at *
    generalize val ms * val ds = q at *
    cases b <;> cases c <;> simp at e1
    · exact ⟨e1, fun _ => rfl⟩
    · exact ⟨by omega, fun _ => by omega⟩
    · exact ⟨by omega, fun _ => by omega⟩
    · exact ⟨by omega, fun _ => rfl⟩
  obtain ⟨n, en⟩ := Int.eq_ofNat_of_zero_le np
  obtain ⟨d, ed⟩ := Int.eq_ofNat_of_zero_le (Int.le_of_lt dp)
  obtain ⟨m, em⟩ := Int.eq_ofNat_of_zero_le mp
  obtain ⟨f, ef⟩ := Int.eq_ofNat_of_zero_le (Int.le_of_lt ep)
  have g1 : Nat.gcd n d = 1 := by
    rw [en, ed] at hg
    unfold gI at hg
    simp only [Int.toNat_natCast] at hg
    omega
  have g2 : Nat.gcd m f = 1 := by
    rw [em, ef] at kg
    unfold gI at kg
    simp only [Int.toNat_natCast] at kg
    omega
  have hm := hab.1
  rw [en, ed, em, ef] at hm
  have hmn : n * f = m * d := by exact_mod_cast hm
  have d1 : d ∣ f := (Nat.Coprime.dvd_of_dvd_mul_left (show Nat.Coprime d n by rw [Nat.coprime_comm]; exact g1) ⟨m, by rw [hmn, Nat.mul_comm]⟩)
  have d2 : f ∣ d := (Nat.Coprime.dvd_of_dvd_mul_left (show Nat.Coprime f m by rw [Nat.coprime_comm]; exact g2) ⟨n, by rw [← hmn, Nat.mul_comm]⟩)
  have hdf : d = f := Nat.dvd_antisymm d1 d2
  subst hdf
  have hd0 : 0 < d := by omega
  have hnm : n = m := Nat.eq_of_mul_eq_mul_right hd0 hmn
  exact ⟨can_inj cn cm (by rw [en, em, hnm]), can_inj cd ce (by rw [ed, ef]), fun h0 => hab.2 (Int.mul_pos h0 ep)⟩

/-- What fits is not too great. -/
theorem not_big {b : Bool} {ns ds : List Int} {N D : Int} (hr : RightP b ns ds) (h : sg b (val ns) * D = N * val ds) (hD : 0 < D) : ¬ Big N D := by
  rintro ⟨c, ms, es, cm, ce, he, kg, k, hl⟩
  obtain ⟨rfl, rfl, _⟩ := lowest_can hr.2.2.1 hr.2.2.2.1 hr.2.2.2.2.2.1 hr.2.2.2.2.2.2 h hD cm ce he kg k
  have := hr.1
  have := hr.2.1
  omega
theorem right_is {b c : Bool} {ns ds ms es : List Int} {N D : Int} (hr : RightP b ns ds) (h : sg b (val ns) * D = N * val ds) (hD : 0 < D) (kr : RightP c ms es) (k : sg c (val ms) * D = N * val es) : c = b ∧ ms = ns ∧ es = ds := by
  refine lowest kr hr (cancel hD ?_)
  have q1 : sg c (val ms) * val ds * D = sg c (val ms) * D * val ds := by ac_rfl
  have q2 : sg b (val ns) * val es * D = sg b (val ns) * D * val es := by ac_rfl
  rw [q1, q2, h, k]
  ac_rfl

/-- A known number is answered. -/
def IsNum' (w : World) (b : Bool) (ns ds : List Int) (e : Ending) (w' : World) : Prop :=
  Below w.heap.size w w' ∧ ∃ a1 c1 a2 c2, e = .returned (.tuple #[.agg #[.bool b, .slice a1 ns.length c1, .slice a2 ds.length c2], .int .i64 0]) ∧ Own w.heap.size w' (.slice a1 ns.length c1) ns ∧ Own w.heap.size w' (.slice a2 ds.length c2) ds
theorem gives_is {w w' : World} {P : Prop} {N D : Int} {e : Ending} {b : Bool} {ns ds : List Int} (h : Gives w P N D e w') (hP : P) (hD : 0 < D) (hr : RightP b ns ds) (hv : sg b (val ns) * D = N * val ds) : IsNum' w b ns ds e w' := by
  obtain ⟨hb, c, x1, n, y1, x2, m, y2, err, rfl, ho⟩ := h
  refine ⟨hb, ?_⟩
  rcases ho.out with ⟨hn, _⟩ | ⟨_, _, _, _, _, _, _, _, _, hbig⟩ | ⟨_, rfl, ms, es, rfl, rfl, on, od, kr, kv⟩
  · exact absurd hP hn
  · exact absurd hbig (not_big hr hv hD)
  · obtain ⟨rfl, rfl, rfl⟩ := right_is hr hv hD kr kv
    exact ⟨x1, y1, x2, y2, rfl, on, od⟩
/-- What a reckoning answers: too great, or a right number. -/
theorem gives_or {w w' : World} {P : Prop} {N D : Int} {e : Ending} (h : Gives w P N D e w') (hP : P) : Below w.heap.size w w' ∧ ((e = .returned (.tuple #[.agg #[.bool false, .slice none 0 0, .slice none 0 0], .int .i64 8]) ∧ Big N D) ∨ ∃ b ns ds a1 c1 a2 c2, e = .returned (.tuple #[.agg #[.bool b, .slice a1 ns.length c1, .slice a2 ds.length c2], .int .i64 0]) ∧ Own w.heap.size w' (.slice a1 ns.length c1) ns ∧ Own w.heap.size w' (.slice a2 ds.length c2) ds ∧ RightP b ns ds ∧ sg b (val ns) * D = N * val ds) := by
  obtain ⟨hb, c, x1, n, y1, x2, m, y2, err, rfl, ho⟩ := h
  refine ⟨hb, ?_⟩
  rcases ho.out with ⟨hn, _⟩ | ⟨_, rfl, rfl, rfl, rfl, rfl, rfl, rfl, rfl, hbig⟩ | ⟨_, rfl, ms, es, rfl, rfl, on, od, kr, kv⟩
  · exact absurd hP hn
  · exact Or.inl ⟨rfl, hbig⟩
  · exact Or.inr ⟨c, ms, es, x1, y1, x2, y2, rfl, on, od, kr, kv⟩
theorem nil_rd (w : World) : Rd w.heap.size w (.slice none ([] : List Int).length 0) [] := Own.rd (base := 0) ⟨lim_nil, World.ownsRow_nil _ _ _ _⟩

section
variable {B : Nat} {w : World} {bx cy : Bool} {a1 a2 a3 a4 : Option Addr} {c1 c2 c3 c4 : Nat} {xn xd yn yd : List Int}
end
end Go.Proofs.Ytkhmbceadeejpaa

/- The document's answers of layer 1: Trim, Of, Right, Same. -/
namespace Go.Proofs.Ytkhmbceadeejpaa
set_option linter.unusedVariables false
set_option linter.unusedSimpArgs false
open Go.RowKit

end Go.Proofs.Ytkhmbceadeejpaa

/- The document's Compare, Right, Bits; nat.Right; the statements' helpers own and kept. -/
namespace Go.Proofs.Ytkhmbceadeejpaa
set_option linter.unusedVariables false
set_option linter.unusedSimpArgs false
open Go.RowKit

end Go.Proofs.Ytkhmbceadeejpaa

/- nat.Right, nat.Small and the document's Right, Small, Bits; the statements' helpers own and kept. -/
namespace Go.Proofs.Ytkhmbceadeejpaa
set_option linter.unusedVariables false
set_option linter.unusedSimpArgs false
open Go.RowKit

/-- Are limbs right? -/

theorem rightB_last (xs : List Int) (n : Nat) (hn : xs.length = n + 1) : rightB xs = !(xs.getD n 0 == 0) := by
  unfold rightB
  rw [tr_length, hn]
  by_cases h : xs.getD n 0 = 0
  · rw [tl_zero xs n h, h]
    have h1 := tl_le xs n
    have h2 : ¬ tl xs n = n + 1 := by omega
    simp [h2]
  · have h1 : (xs.getD n 0 == 0) = false := by simpa using h
    rw [tl_pos xs n h, h1]
    simp

end Go.Proofs.Ytkhmbceadeejpaa

/- nat.word, nat.Small. -/
namespace Go.Proofs.Ytkhmbceadeejpaa
set_option linter.unusedVariables false
set_option linter.unusedSimpArgs false
open Go.RowKit

theorem or_zero_left (x : Int) (h : 0 ≤ x ∧ x < 18446744073709551616) : bits .or .u64 0 x = x := by
  obtain ⟨a, rfl⟩ := Int.eq_ofNat_of_zero_le h.1
  have := bits_or_u64_nat 0 a (by omega) (by omega)
  rw [Nat.zero_or] at this
  exact this
theorem or_add_right (q v : Int) (hq : 0 ≤ q ∧ q < 4294967296) (hv : 0 ≤ v ∧ v < 4294967296) : bits .or .u64 v (q * 4294967296) = v + q * 4294967296 := by
  obtain ⟨a, rfl⟩ := Int.eq_ofNat_of_zero_le hq.1
  obtain ⟨b, rfl⟩ := Int.eq_ofNat_of_zero_le hv.1
  have e : ((a : Int) * 4294967296) = ((a * 4294967296 : Nat) : Int) := by omega
  rw [e, bits_or_u64_nat _ _ (by omega) (by omega)]
  have h : b ||| a * 4294967296 = a * 4294967296 + b := by
    have := Nat.two_pow_add_eq_or_of_lt (i := 32) (b := b) (by omega) a
    rw [Nat.mul_comm, Nat.or_comm]
    exact this.symm
  rw [h]; omega

set_option maxHeartbeats 800000 in
theorem word_two (b o c : Nat) (x y : Int) (w : World) (hx : 0 ≤ x ∧ x < 4294967296) (hy : 0 ≤ y ∧ y < 4294967296) (k1 : w.cell? ⟨b, o, none⟩ = some (.int .u32 x)) (k2 : w.cell? ⟨b, o + 1, none⟩ = some (.int .u32 y)) :
    Calls Try.prog 90 #[.slice (some ⟨b, o, none⟩) 2 c] w fun e w' => e = .returned (.int .u64 (x + y * 4294967296)) ∧ w = w' := by
  have e1 := or_zero_left x (by omega)
  have e2 := or_add_right y x hy hx
  go_enter Try.func90, Try.ntmps90
  go_wp2
  refine wp_loop_rounds 3 ?_
  rw [rounds_succ]
  go_wp2
  rw [rounds_succ]
  go_wp2
  rw [rounds_succ]
  go_wp2
  go_ret
  exact ⟨rfl, rfl⟩

set_option maxHeartbeats 800000 in
theorem word_one (b o c : Nat) (x : Int) (w : World) (hx : 0 ≤ x ∧ x < 4294967296) (k1 : w.cell? ⟨b, o, none⟩ = some (.int .u32 x)) :
    Calls Try.prog 90 #[.slice (some ⟨b, o, none⟩) 1 c] w fun e w' => e = .returned (.int .u64 x) ∧ w = w' := by
  have e1 := or_zero_left x (by omega)
  go_enter Try.func90, Try.ntmps90
  go_wp2
  refine wp_loop_rounds 2 ?_
  rw [rounds_succ]
  go_wp2
  rw [rounds_succ]
  go_wp2
  go_ret
  exact ⟨rfl, rfl⟩
theorem word_zero (a : Option Addr) (c : Nat) (w : World) :
    Calls Try.prog 90 #[.slice a 0 c] w fun e w' => e = .returned (.int .u64 0) ∧ w = w' := by
  go_enter Try.func90, Try.ntmps90
  go_wp2
  refine wp_loop_rounds 1 ?_
  rw [rounds_succ]
  go_wp2
  go_ret
  exact ⟨rfl, rfl⟩

/-- nat.word of at most two limbs: the number. -/
theorem word_rd {B : Nat} {w : World} {v : Value} {xs : List Int} (h : Rd B w v xs) (h2 : xs.length ≤ 2) :
    Calls Try.prog 90 #[v] w fun e w' => e = .returned (.int .u64 (val xs)) ∧ w = w' := by
  obtain ⟨hl, a, c, rfl, _, _, _, r⟩ := h
  match xs, h2 with
  | [], _ => exact word_zero a c w
  | [x], _ =>
    rcases r with r | ⟨b, o, rfl, _, k⟩
    · simp at r
    · have e : val [x] = x := by simp [val]
      rw [e]
      exact word_one b o c x w (hl x (by simp)) (k 0 (by simp))
  | [x, y], _ =>
    rcases r with r | ⟨b, o, rfl, _, k⟩
    · simp at r
    · have e : val [x, y] = x + y * 4294967296 := by simp [val]; rw [Int.mul_comm]
      rw [e]
      exact word_two b o c x y w (hl x (by simp)) (hl y (by simp)) (k 0 (by simp)) (k 1 (by simp))

/-- A number as an int, if it is below 2^63. -/
def smallV (n : Int) : Value := .tuple #[.int .i64 (if n < 9223372036854775808 then n else 0), .bool (decide (n < 9223372036854775808))]

theorem smallV_lt {n : Int} (h : n < 9223372036854775808) : smallV n = .tuple #[.int .i64 n, .bool true] := by unfold smallV; rw [if_pos h, decide_eq_true h]
theorem smallV_ge {n : Int} (h : 9223372036854775808 ≤ n) : smallV n = .tuple #[.int .i64 0, .bool false] := by unfold smallV; rw [if_neg (by omega), decide_eq_false (by omega)]
theorem list_two {us : List Int} (h : us.length ≤ 2) : us = [] ∨ (∃ x, us = [x]) ∨ ∃ x y, us = [x, y] := by
  match us, h with
  | [], _ => exact Or.inl rfl
  | [x], _ => exact Or.inr (Or.inl ⟨x, rfl⟩)
  | [x, y], _ => exact Or.inr (Or.inr ⟨x, y, rfl⟩)

theorem isBits_63 {n : Int} {b : Nat} (h : isBits n b) (h0 : 0 ≤ n) : b ≤ 63 ↔ n < 9223372036854775808 := by
  have e : p2 63 = 9223372036854775808 := by decide
  rcases h with ⟨rfl, rfl⟩ | ⟨h1, h2, h3⟩
  · exact ⟨fun _ => by omega, fun _ => by omega⟩
  · constructor
    · intro hb
      have := p2_mono (j := b) (k := 63) hb
      omega
    · intro hn
      by_cases hb : b ≤ 63
      · exact hb
      · have := p2_mono (j := 63) (k := b - 1) (by omega)
        omega

theorem can_two {us : List Int} (h : can us) (hv : val us < 18446744073709551616) : us.length ≤ 2 := by
  by_cases hl : us.length ≤ 2
  · exact hl
  · have h1 := can_low h (by omega)
    have h2 := pw_mono (j := 2) (k := us.length - 1) (by omega)
    have e : pw 2 = 18446744073709551616 := by decide
    omega

end Go.Proofs.Ytkhmbceadeejpaa

/- nat.word, nat.Small and the document's Small; the statements' helpers own and kept. -/
namespace Go.Proofs.Ytkhmbceadeejpaa
set_option linter.unusedVariables false
set_option linter.unusedSimpArgs false
open Go.RowKit

theorem bits_or_i64_nat (a b : Nat) (ha : a < 9223372036854775808) (hb : b < 9223372036854775808) : bits .or .i64 (a : Int) (b : Int) = ((a ||| b : Nat) : Int) := by
  have hx : a ||| b < 2 ^ 63 := Nat.or_lt_two_pow (by omega) (by omega)
  have h1 : (BitVec.ofInt 64 (a : Int)).toNat = a := by
    rw [BitVec.ofInt_natCast, BitVec.toNat_ofNat]; exact Nat.mod_eq_of_lt (by omega)
  have h2 : (BitVec.ofInt 64 (b : Int)).toNat = b := by
    rw [BitVec.ofInt_natCast, BitVec.toNat_ofNat]; exact Nat.mod_eq_of_lt (by omega)
  show IntKind.i64.wrap ((BitVec.ofInt 64 (a : Int) ||| BitVec.ofInt 64 (b : Int)).toNat : Int) = _
  rw [BitVec.toNat_or, h1, h2, IntKind.wrap_i64]
  omega
theorem or_zero_i64 (x : Int) (h : 0 ≤ x ∧ x < 9223372036854775808) : bits .or .i64 0 x = x := by
  obtain ⟨a, rfl⟩ := Int.eq_ofNat_of_zero_le h.1
  have := bits_or_i64_nat 0 a (by omega) (by omega)
  rw [Nat.zero_or] at this
  exact this
theorem or_add_i64 (q v : Int) (hq : 0 ≤ q ∧ q < 2147483648) (hv : 0 ≤ v ∧ v < 4294967296) : bits .or .i64 (q * 4294967296) v = q * 4294967296 + v := by
  obtain ⟨a, rfl⟩ := Int.eq_ofNat_of_zero_le hq.1
  obtain ⟨b, rfl⟩ := Int.eq_ofNat_of_zero_le hv.1
  have e : ((a : Int) * 4294967296) = ((a * 4294967296 : Nat) : Int) := by omega
  rw [e, bits_or_i64_nat _ _ (by omega) (by omega)]
  have h : a * 4294967296 ||| b = a * 4294967296 + b := by
    have := Nat.two_pow_add_eq_or_of_lt (i := 32) (b := b) (by omega) a
    rw [Nat.mul_comm]
    exact this.symm
  rw [h]; omega

end Go.Proofs.Ytkhmbceadeejpaa

/- The statements' helpers own (limbs with room behind them) and kept. -/
namespace Go.Proofs.Ytkhmbceadeejpaa
set_option linter.unusedVariables false
set_option linter.unusedSimpArgs false
open Go.RowKit

theorem lt_of_cell0 {w : World} {b off : Nat} {v : Value} (h : w.cell? ⟨b, off, none⟩ = some v) : b < w.heap.size := by
  rcases Nat.lt_or_ge b w.heap.size with h' | h'
  · exact h'
  · simp [World.cell?, Array.getElem?_eq_none h'] at h

/-- Limbs of the call's own with 77 and 78 behind them. -/
def Roomy (base : Nat) (w : World) (v : Value) (ys : List Int) : Prop := ∃ g c, v = .slice (some ⟨g, 0, none⟩) ys.length c ∧ Own base w (.slice (some ⟨g, 0, none⟩) (ys ++ [77, 78]).length c) (ys ++ [77, 78])

theorem Roomy.rd {base : Nat} {w : World} {v : Value} {ys : List Int} (h : Roomy base w v ys) : Rd w.heap.size w v ys := by
  obtain ⟨g, c, rfl, hO⟩ := h
  have h1 := (hO.take ys.length (by simp)).rd
  have e : (ys ++ [77, 78]).take ys.length = ys := by simp
  rw [e] at h1
  exact h1
theorem Roomy.below {base B : Nat} {w w' : World} {v : Value} {ys : List Int} (h : Roomy base w v ys) (hb : Below B w w') (hB : w.heap.size ≤ B) : Roomy base w' v ys := by
  obtain ⟨g, c, rfl, hO⟩ := h
  exact ⟨g, c, rfl, hO.below hb hB⟩

end Go.Proofs.Ytkhmbceadeejpaa

/- The document's limb, Add, Minus. -/
namespace Go.Proofs.Ytkhmbceadeejpaa
set_option linter.unusedVariables false
set_option linter.unusedSimpArgs false
open Go.RowKit

theorem cell1_new (w : World) (x : Value) (t : TypeId) : ∀ j u, [x][j]? = some u → (w.alloc (.cells #[x] t)).cell? ((⟨w.heap.size, 0, none⟩ : Addr).add j) = some u := by
  intro j u hj
  match j, hj with
  | 0, hj => simp at hj; subst hj; simp [Addr.add]

theorem refAdd_step (us xs ys : List Int) (i : Nat) (c t : Int) (hl : us.length = i) (h : val us + c * pw i = val (xs.take i) + val (ys.take i)) (ht : t = xs.getD i 0 + ys.getD i 0 + c) :
    val (us ++ [t % 4294967296]) + t / 4294967296 * pw (i + 1) = val (xs.take (i + 1)) + val (ys.take (i + 1)) := by
  have hd : 4294967296 * (t / 4294967296) + t % 4294967296 = t := Int.mul_ediv_add_emod t 4294967296
  have htk : ∀ zs : List Int, val (zs.take (i + 1)) = val (zs.take i) + zs.getD i 0 * pw i := by
    intro zs
    by_cases hy : i < zs.length
    · exact val_take_succ zs i hy
    · have e1 : zs.take (i + 1) = zs.take i := by rw [List.take_of_length_le (by omega), List.take_of_length_le (by omega)]
      have e2 : zs.getD i 0 = 0 := by simp [List.getD, List.getElem?_eq_none (Nat.le_of_not_lt hy)]
      rw [e1, e2]; simp
  rw [val_append, hl, htk xs, htk ys, pw_succ]
  simp only [val]
  generalize t / 4294967296 = q at *
  generalize t % 4294967296 = r at *
  have key := congrArg (fun u => u * pw i) (hd.trans ht)
  simp only [Int.mul_zero, Int.add_zero] at *
  simp only [Int.add_mul, Int.mul_add, Int.mul_assoc, Int.mul_comm, Int.mul_left_comm] at *
  omega

theorem own_push {base : Nat} {w2 : World} {v' : Value} {us : List Int} {r : Int} (hl : lim us) (hr : 0 ≤ r ∧ r < 4294967296) (h : w2.ownsRow base 69 1 v' (us.length + 1) (us.map (Value.int .u32) ++ [.int .u32 r])) : Own base w2 v' (us ++ [r]) := by
  refine ⟨lim_append.2 ⟨hl, fun x hx => by simp at hx; omega⟩, ?_⟩
  rw [List.length_append, List.map_append]; exact h

end Go.Proofs.Ytkhmbceadeejpaa

/- The document's Minus and Mul. -/
namespace Go.Proofs.Ytkhmbceadeejpaa
set_option linter.unusedVariables false
set_option linter.unusedSimpArgs false
open Go.RowKit

theorem refMinus_step (us xs ys : List Int) (i : Nat) (c z c' : Int) (hl : us.length = i) (h : val us - c * pw i = val (xs.take i) - val (ys.take i)) (ht : xs.getD i 0 - (ys.getD i 0 + c) = z - c' * 4294967296) :
    val (us ++ [z]) - c' * pw (i + 1) = val (xs.take (i + 1)) - val (ys.take (i + 1)) := by
  have htk : ∀ zs : List Int, val (zs.take (i + 1)) = val (zs.take i) + zs.getD i 0 * pw i := by
    intro zs
    by_cases hy : i < zs.length
    · exact val_take_succ zs i hy
    · have e1 : zs.take (i + 1) = zs.take i := by rw [List.take_of_length_le (by omega), List.take_of_length_le (by omega)]
      have e2 : zs.getD i 0 = 0 := by simp [List.getD, List.getElem?_eq_none (Nat.le_of_not_lt hy)]
      rw [e1, e2]; simp
  rw [val_append, hl, htk xs, htk ys, pw_succ]
  simp only [val]
  have key := congrArg (fun u => u * pw i) ht
  simp only [Int.mul_zero, Int.add_zero] at *
  simp only [Int.add_mul, Int.mul_add, Int.sub_mul, Int.mul_assoc, Int.mul_comm, Int.mul_left_comm] at *
  omega

theorem val_cut {xs ys : List Int} (hx : lim xs) (hy : lim ys) (h : val ys ≤ val xs) : val (ys.take xs.length) = val ys := by
  by_cases hl : ys.length ≤ xs.length
  · rw [List.take_of_length_le hl]
  · have h1 := val_split ys xs.length (by omega)
    have h2 := (val_bound hx).2
    have h3 := val_bound (lim_drop hy xs.length)
    have h4 := val_bound (lim_take hy xs.length)
    have hp := pw_pos xs.length
    have h5 : val (ys.drop xs.length) = 0 := by
      by_cases h0 : val (ys.drop xs.length) = 0
      · exact h0
      · have : pw xs.length * 1 ≤ pw xs.length * val (ys.drop xs.length) := Int.mul_le_mul_of_nonneg_left (by omega) (Int.le_of_lt hp)
        omega
    rw [h5] at h1; simp at h1; exact h1.symm

end Go.Proofs.Ytkhmbceadeejpaa

/- The document's Mul, Sum, Product. -/
namespace Go.Proofs.Ytkhmbceadeejpaa
set_option linter.unusedVariables false
set_option linter.unusedSimpArgs false
open Go.RowKit

theorem refMul_step (zs ys : List Int) (i j : Nat) (x c V t : Int) (hij : i + j < zs.length) (h : val zs + c * pw (i + j) = V + x * val (ys.take j) * pw i)
    (ht : t = zs.getD (i + j) 0 + x * ys.getD j 0 + c) : val (zs.set (i + j) (t % 4294967296)) + t / 4294967296 * pw (i + (j + 1)) = V + x * val (ys.take (j + 1)) * pw i := by
  have hd : 4294967296 * (t / 4294967296) + t % 4294967296 = t := Int.mul_ediv_add_emod t 4294967296
  have htk : val (ys.take (j + 1)) = val (ys.take j) + ys.getD j 0 * pw j := by
    by_cases hy : j < ys.length
    · exact val_take_succ ys j hy
    · have e1 : ys.take (j + 1) = ys.take j := by rw [List.take_of_length_le (by omega), List.take_of_length_le (by omega)]
      have e2 : ys.getD j 0 = 0 := by simp [List.getD, List.getElem?_eq_none (Nat.le_of_not_lt hy)]
      rw [e1, e2]; simp
  rw [val_set _ _ _ hij, htk, ← Nat.add_assoc, pw_succ, pw_add] at *
  generalize t / 4294967296 = q at *
  generalize t % 4294967296 = r at *
  have key := congrArg (fun u => u * (pw i * pw j)) (hd.trans ht)
  simp only [Int.add_mul, Int.mul_add, Int.sub_mul, Int.mul_assoc, Int.mul_comm, Int.mul_left_comm] at *
  omega

theorem Own.drewN {base : Nat} {w : World} {v : Value} {xs : List Int} (h : Own base w v xs) (n : Nat) : Own base (w.drewN n) v xs := h

end Go.Proofs.Ytkhmbceadeejpaa

/- The document's Sum and Product; sums and products of none. -/
namespace Go.Proofs.Ytkhmbceadeejpaa
set_option linter.unusedVariables false
set_option linter.unusedSimpArgs false
open Go.RowKit

theorem Many.below {w w' : World} {Lb k : Nat} {vs : List Value} {xss : List (List Int)} (h : Many w Lb k vs xss) (hb : Below w.heap.size w w') : Many w' Lb k vs xss where
  lv := h.lv
  lx := h.lx
  lt := Nat.lt_of_lt_of_le h.lt hb.size
  cell := fun j hj => (hb.cell h.lt).trans (h.cell j hj)
  rd := fun j hj => ((h.rd j hj).below hb).mono hb.size

theorem sum_none (w : World) : Calls Try.prog 43 #[.slice none 0 0] w fun e w' => e = .returned (.slice none 0 0) ∧ Below w.heap.size w w' := by
  go_enter Try.func43, Try.ntmps43
  go_wp2
  refine wp_loop_rounds 1 ?_
  rw [rounds_succ]
  go_wp2
  go_ret
  exact ⟨rfl, (Below.refl _ _).alloc (Nat.le_refl _) _⟩

theorem product_none (w : World) : Calls Try.prog 44 #[.slice none 0 0] w fun e w' => Makes w e w' [1] := by
  go_enter Try.func44, Try.ntmps44
  go_wp2_with fail
  refine (beginAt_any 1 (by omega) (by omega) _).mono ?_
  intro e w1 hm1
  rw [one_limbs] at hm1
  obtain ⟨a, c, rfl, ho, hb⟩ := hm1
  have hz := hb.size
  go_wp2
  refine wp_loop_rounds 1 ?_
  rw [rounds_succ]
  go_wp2
  go_ret
  exact ⟨a, c, rfl, ho.alloc _, hb.alloc hz _⟩
end Go.Proofs.Ytkhmbceadeejpaa

/- Plain facts on doubling, halving and dividing limbs bit by bit. -/
namespace Go.Proofs.Ytkhmbceadeejpaa
set_option linter.unusedVariables false
set_option linter.unusedSimpArgs false
open Go.RowKit

theorem bits_or_u32_nat' (a b : Nat) (ha : a < 4294967296) (hb : b < 4294967296) : bits .or .u32 (a : Int) (b : Int) = ((a ||| b : Nat) : Int) := by
  have hx : a ||| b < 2 ^ 32 := Nat.or_lt_two_pow (by omega) (by omega)
  have h1 : (BitVec.ofInt 32 (a : Int)).toNat = a := by
    rw [BitVec.ofInt_natCast, BitVec.toNat_ofNat]; exact Nat.mod_eq_of_lt (by omega)
  have h2 : (BitVec.ofInt 32 (b : Int)).toNat = b := by
    rw [BitVec.ofInt_natCast, BitVec.toNat_ofNat]; exact Nat.mod_eq_of_lt (by omega)
  show IntKind.u32.wrap ((BitVec.ofInt 32 (a : Int) ||| BitVec.ofInt 32 (b : Int)).toNat : Int) = _
  rw [BitVec.toNat_or, h1, h2, IntKind.wrap_u32]
  omega

/-- Two times a limb, and a bit below. -/
theorem or_bit (x c : Int) (hx : 0 ≤ x ∧ x < 4294967296) (hc : 0 ≤ c ∧ c ≤ 1) : bits .or .u32 (x * 2 % 4294967296) c = x * 2 % 4294967296 + c := by
  obtain ⟨k, hk⟩ : ∃ k : Nat, x * 2 % 4294967296 = ((k * 2 : Nat) : Int) := ⟨(x % 2147483648).toNat, by omega⟩
  obtain ⟨d, rfl⟩ := Int.eq_ofNat_of_zero_le hc.1
  rw [hk, bits_or_u32_nat' _ _ (by omega) (by omega)]
  have h : k * 2 ||| d = k * 2 + d := by
    have := Nat.two_pow_add_eq_or_of_lt (i := 1) (b := d) (by omega) k
    rw [Nat.mul_comm]
    exact this.symm
  rw [h]; omega

/-- Half a limb, and a bit above. -/
theorem or_high (x c : Int) (hx : 0 ≤ x ∧ x < 4294967296) (hc : 0 ≤ c ∧ c ≤ 1) : bits .or .u32 (x / 2) (c * 2147483648) = x / 2 + c * 2147483648 := by
  obtain ⟨k, hk⟩ : ∃ k : Nat, x / 2 = (k : Int) := ⟨(x / 2).toNat, by omega⟩
  obtain ⟨d, rfl⟩ := Int.eq_ofNat_of_zero_le hc.1
  have e : ((d : Int) * 2147483648) = ((d * 2147483648 : Nat) : Int) := by omega
  rw [hk, e, bits_or_u32_nat' _ _ (by omega) (by omega)]
  have h : k ||| d * 2147483648 = k + d * 2147483648 := by
    have := Nat.two_pow_add_eq_or_of_lt (i := 31) (b := k) (by omega) d
    rw [Nat.or_comm, Nat.mul_comm, ← this]; omega
  rw [h]; omega

theorem ref_and_one_u32 (x : Int) (h0 : 0 ≤ x) (h1 : x < 4294967296) : bits .and .u32 x 1 = x % 2 :=
  bits_mask .u32 32 (by decide) (fun n a b => by rw [IntKind.wrap_u32]; omega) 1 (by decide) x h0 (by omega)
theorem and_one_u64 (x : Int) (h0 : 0 ≤ x) (h1 : x < 4294967296) : bits .and .u64 x 1 = x % 2 :=
  bits_mask .u64 64 (by decide) (fun n a b => by rw [IntKind.wrap_u64]; omega) 1 (by decide) x h0 (by omega)

theorem twice_step (us xs : List Int) (i : Nat) (c z c' m : Int) (hl : us.length = i) (hi : i < xs.length) (h : val us + c * pw i = 2 * val (xs.take i) + m) (ht : 2 * xs.getD i 0 + c = z + c' * 4294967296) :
    val (us ++ [z]) + c' * pw (i + 1) = 2 * val (xs.take (i + 1)) + m := by
  rw [val_append, hl, val_take_succ xs i hi, pw_succ]
  simp only [val]
  have key := congrArg (fun u => u * pw i) ht
  simp only [Int.mul_zero, Int.add_zero] at *
  simp only [Int.add_mul, Int.mul_add, Int.sub_mul, Int.mul_assoc, Int.mul_comm, Int.mul_left_comm] at *
  omega

theorem half_step (us xs : List Int) (i : Nat) (z m : Int) (hl : us.length = i) (hi : i < xs.length) (h : 2 * val us + m = val (xs.take i) + xs.getD i 0 % 2 * pw i) (ht : 2 * z = xs.getD i 0 - xs.getD i 0 % 2 + xs.getD (i + 1) 0 % 2 * 4294967296) :
    2 * val (us ++ [z]) + m = val (xs.take (i + 1)) + xs.getD (i + 1) 0 % 2 * pw (i + 1) := by
  rw [val_append, hl, val_take_succ xs i hi, pw_succ]
  simp only [val]
  generalize xs.getD i 0 % 2 = r at *
  generalize xs.getD (i + 1) 0 % 2 = s at *
  generalize xs.getD i 0 = x at *
  have key := congrArg (fun u => u * pw i) ht
  simp only [Int.mul_zero, Int.add_zero] at *
  simp only [Int.add_mul, Int.mul_add, Int.sub_mul, Int.mul_assoc, Int.mul_comm, Int.mul_left_comm] at *
  omega

theorem val_mod2 (xs : List Int) : val xs % 2 = xs.getD 0 0 % 2 := by
  cases xs with
  | nil => rfl
  | cons x xs => simp only [val, List.getD_cons_zero]; omega

/-- Half of limbs. -/
theorem half_end (us xs : List Int) (h : 2 * val us + xs.getD 0 0 % 2 = val (xs.take xs.length) + xs.getD xs.length 0 % 2 * pw xs.length) : val us = val xs / 2 := by
  have e : xs.getD xs.length 0 = 0 := by simp [List.getD]
  rw [e, List.take_length, ← val_mod2] at h
  simp at h
  omega

/-- The number without its j lowest bits. -/
def sh (A : Int) (j : Nat) : Int := A / p2 j
theorem sh_zero (A : Int) : sh A 0 = A := by unfold sh p2; simp
theorem sh_bits {A : Int} {b : Nat} (h : isBits A b) : sh A b = 0 := by
  unfold sh
  rcases h with ⟨rfl, _⟩ | ⟨h1, h2, h3⟩
  · simp
  · exact Int.ediv_eq_zero_of_lt (by have := p2_pos (b - 1); omega) h3
theorem sh_succ (A : Int) (j : Nat) : sh A (j + 1) = sh A j / 2 := by
  unfold sh
  rw [p2_succ, Int.mul_comm, ← Int.ediv_ediv_of_nonneg (Int.le_of_lt (p2_pos j))]
theorem sh_step (A : Int) (j : Nat) : sh A j = 2 * sh A (j + 1) + sh A j % 2 := by rw [sh_succ]; omega
theorem sh_nonneg {A : Int} (h : 0 ≤ A) (j : Nat) : 0 ≤ sh A j := Int.ediv_nonneg h (Int.le_of_lt (p2_pos j))
theorem sh_le {A : Int} (h : 0 ≤ A) (j : Nat) : sh A j ≤ A := Int.ediv_le_self _ h

theorem sh_bit {xs : List Int} (h : lim xs) (i : Nat) (hi : i / 32 < xs.length) : sh (val xs) i % 2 = xs.getD (i / 32) 0 / 2 ^ (i % 32) % 2 := by
  have hx := lim_getD h (i / 32)
  have e1 := val_split xs (i / 32 + 1) (by omega)
  rw [val_take_succ xs _ hi, pw_succ] at e1
  have hb := val_bound (lim_take h (i / 32))
  rw [List.length_take, Nat.min_eq_left (by omega)] at hb
  have hp := pw_pos (i / 32)
  have e2 : p2 i = pw (i / 32) * 2 ^ (i % 32) := by
    rw [pw_p2]; unfold p2; rw [← Int.pow_add]; congr 1; omega
  unfold sh
  rw [e2, ← Int.ediv_ediv_of_nonneg (Int.le_of_lt hp)]
  generalize val (xs.drop (i / 32 + 1)) = D at *
  generalize xs.getD (i / 32) 0 = X at *
  generalize val (xs.take (i / 32)) = L at *
  have e3 : val xs / pw (i / 32) = X + 4294967296 * D := by
    have e4 : val xs = L + pw (i / 32) * (X + 4294967296 * D) := by
      rw [e1]; simp only [Int.add_mul, Int.mul_add, Int.mul_assoc, Int.mul_comm, Int.mul_left_comm]; omega
    rw [e4, Int.add_mul_ediv_left _ _ (by omega), Int.ediv_eq_zero_of_lt hb.1 hb.2]; omega
  rw [e3]
  have hj : i % 32 < 32 := Nat.mod_lt _ (by omega)
  generalize i % 32 = j at *
  obtain ⟨d, hd⟩ : ∃ d, 31 = j + d := ⟨31 - j, by omega⟩
  have e5 : (4294967296 : Int) = 2 ^ j * (2 * 2 ^ d) := by
    have : (2 : Int) ^ j * 2 ^ d = 2 ^ 31 := by rw [← Int.pow_add, ← hd]
    have e6 : (2 : Int) ^ j * (2 * 2 ^ d) = 2 * (2 ^ j * 2 ^ d) := by simp only [Int.mul_assoc, Int.mul_comm, Int.mul_left_comm]
    rw [e6, this]; rfl
  have hp2 : (0 : Int) < 2 ^ j := Int.pow_pos (by omega)
  rw [e5, Int.mul_assoc, Int.add_mul_ediv_left _ _ (by omega), Int.mul_assoc]
  omega

/-- One step of a division bit by bit. -/
theorem divBit_step (A B q r b : Int) (j : Nat) (h : sh A (j + 1) = q * B + r) (hb : b = sh A j % 2) :
    sh A j = (2 * q) * B + (2 * r + b) ∧ sh A j = (2 * q + 1) * B + (2 * r + b - B) := by
  have := sh_step A j
  rw [h, ← hb] at this
  rw [this]
  simp only [Int.add_mul, Int.mul_add, Int.mul_assoc]
  constructor <;> omega

theorem ref_div_unique (A B q r q' r' : Int) (h : A = q * B + r) (h0 : 0 ≤ r) (h1 : r < B) (h' : A = q' * B + r') (h0' : 0 ≤ r') (h1' : r' < B) : q = q' ∧ r = r' := by
  have e : ∀ q r : Int, A = q * B + r → 0 ≤ r → r < B → r = A % B ∧ q = A / B := by
    intro q r h h0 h1
    rw [h]
    constructor
    · rw [Int.add_comm, Int.add_mul_emod_self_right, Int.emod_eq_of_lt h0 h1]
    · rw [Int.add_comm, Int.add_mul_ediv_right _ _ (by omega), Int.ediv_eq_zero_of_lt h0 h1]; omega
  obtain ⟨a1, a2⟩ := e q r h h0 h1
  obtain ⟨b1, b2⟩ := e q' r' h' h0' h1'
  exact ⟨a2.trans b2.symm, a1.trans b1.symm⟩

/-- The greatest divisor of two even numbers; of an even and an odd one; of a difference. -/
theorem gI_even2 (x y : Int) (hx : 0 ≤ x) (hy : 0 ≤ y) (h1 : x % 2 = 0) (h2 : y % 2 = 0) : gI x y = 2 * gI (x / 2) (y / 2) := by
  unfold gI
  have e1 : x.toNat = 2 * (x / 2).toNat := by omega
  have e2 : y.toNat = 2 * (y / 2).toNat := by omega
  rw [e1, e2, Nat.gcd_mul_left]; omega
theorem gI_even (x y : Int) (hx : 0 ≤ x) (hy : 0 ≤ y) (h1 : x % 2 = 0) (h2 : ¬ y % 2 = 0) : gI x y = gI (x / 2) y := by
  unfold gI
  have e1 : x.toNat = 2 * (x / 2).toNat := by omega
  have hc : Nat.Coprime 2 y.toNat := by
    have : y.toNat % 2 = 1 := by omega
    unfold Nat.Coprime
    rw [Nat.gcd_rec, this]
    rfl
  rw [e1, Nat.Coprime.gcd_mul_left_cancel _ hc]
theorem gI_even' (x y : Int) (hx : 0 ≤ x) (hy : 0 ≤ y) (h1 : y % 2 = 0) (h2 : ¬ x % 2 = 0) : gI x y = gI x (y / 2) := by
  rw [gI_comm, gI_even y x hy hx h1 h2, gI_comm]
theorem gI_sub (x y : Int) (hy : 0 ≤ y) (h : y ≤ x) : gI x y = gI (x - y) y := by
  unfold gI
  have e : x.toNat = (x - y).toNat + y.toNat := by omega
  rw [e, Nat.gcd_add_self_left]
theorem gI_sub' (x y : Int) (hx : 0 ≤ x) (h : x ≤ y) : gI x y = gI x (y - x) := by
  rw [gI_comm, gI_sub y x hx h, gI_comm]
theorem gI_p2 (t : Nat) (x y : Int) (hx : 0 ≤ x) (hy : 0 ≤ y) : gI (p2 t * x) (p2 t * y) = p2 t * gI x y := by
  obtain ⟨a, rfl⟩ := Int.eq_ofNat_of_zero_le hx
  obtain ⟨b, rfl⟩ := Int.eq_ofNat_of_zero_le hy
  have e : p2 t = ((2 ^ t : Nat) : Int) := by unfold p2; simp
  unfold gI
  rw [e, ← Int.natCast_mul, ← Int.natCast_mul]
  simp only [Int.toNat_natCast]
  rw [Nat.gcd_mul_left, Int.natCast_mul]
end Go.Proofs.Ytkhmbceadeejpaa

/- The document's Power. -/
namespace Go.Proofs.Ytkhmbceadeejpaa
set_option linter.unusedVariables false
set_option linter.unusedSimpArgs false
open Go.RowKit

/-- What a power with a limit answers: nothing where it has more limbs, else its limbs. -/
def PowersTo (w : World) (V : Int) (M : Nat) (e : Ending) (w' : World) : Prop :=
  Below w.heap.size w w' ∧ (pw M ≤ V → e = .returned (.tuple #[.slice none 0 0, .bool false])) ∧
    (V < pw M → ∃ zs a c, can zs ∧ val zs = V ∧ e = .returned (.tuple #[.slice a zs.length c, .bool true]) ∧ Own w.heap.size w' (.slice a zs.length c) zs)

theorem PowersTo.yes {w w' : World} {V : Int} {M : Nat} {zs : List Int} {a : Option Addr} {c : Nat} (hb : Below w.heap.size w w') (hz : can zs) (hv : val zs = V) (hl : zs.length ≤ M) (ho : Own w.heap.size w' (.slice a zs.length c) zs) :
    PowersTo w V M (.returned (.tuple #[.slice a zs.length c, .bool true])) w' :=
  ⟨hb, fun h => by have := (can_len_pw hz M).1 hl; omega, fun _ => ⟨zs, a, c, hz, hv, rfl, ho⟩⟩

theorem PowersTo.no {w w' : World} {V : Int} {M : Nat} (hb : Below w.heap.size w w') (hv : pw M ≤ V) : PowersTo w V M (.returned (.tuple #[.slice none 0 0, .bool false])) w' :=
  ⟨hb, fun _ => rfl, fun h => by omega⟩

theorem pow_grow {X : Int} (h : 1 ≤ X) {j k : Nat} (hjk : j ≤ k) : X ^ j ≤ X ^ k := by
  induction hjk with
  | refl => exact Int.le_refl _
  | step _ ih =>
    rw [Int.pow_succ]
    have h0 : 0 ≤ X ^ j := Int.pow_nonneg (by omega)
    rename_i m _
    have h1 : X ^ m * 1 ≤ X ^ m * X := Int.mul_le_mul_of_nonneg_left h (by omega)
    omega

theorem pow_next (X : Int) (n k : Nat) (h : 0 < k) (hk : k ≤ n) : X ^ (n - k) * X = X ^ (n - (k - 1)) := by
  rw [← Int.pow_succ]; congr 1; omega

theorem long_pw {zs : List Int} (h : can zs) (M : Nat) (hl : ¬ zs.length ≤ M) : pw M ≤ val zs := by
  have := (can_len_pw h M).2
  by_cases hv : val zs < pw M
  · exact absurd (this hv) hl
  · omega

theorem own_nil (base : Nat) (w : World) : Own base w (.slice none 0 0) [] := ⟨lim_nil, World.ownsRow_nil _ _ _ _⟩

end Go.Proofs.Ytkhmbceadeejpaa

/- The document's twice, bit and DivMod. -/
namespace Go.Proofs.Ytkhmbceadeejpaa
set_option linter.unusedVariables false
set_option linter.unusedSimpArgs false
open Go.RowKit

end Go.Proofs.Ytkhmbceadeejpaa

/- The document's DivMod. -/
namespace Go.Proofs.Ytkhmbceadeejpaa
set_option linter.unusedVariables false
set_option linter.unusedSimpArgs false
open Go.RowKit

/-- What a division answers: quotient and rest. -/
def RefDivs (w : World) (xs ys : List Int) (e : Ending) (w' : World) : Prop :=
  ∃ qs rs a c a' c', e = .returned (.tuple #[.slice a qs.length c, .slice a' rs.length c', .bool true]) ∧ Own w.heap.size w' (.slice a qs.length c) qs ∧ Own w.heap.size w' (.slice a' rs.length c') rs ∧ can qs ∧ can rs ∧ val xs = val qs * val ys + val rs ∧ val rs < val ys ∧ Below w.heap.size w w'

theorem len_of_lt {zs : List Int} (h : can zs) {L : Nat} (hv : val zs < pw L) : zs.length ≤ L := (can_len_pw h L).2 hv

theorem quot_le {A B q r : Int} (h : A = q * B + r) (hB : 0 < B) (hq : 0 ≤ q) (hr : 0 ≤ r) : q ≤ A := by
  have : q * 1 ≤ q * B := Int.mul_le_mul_of_nonneg_left (by omega) hq
  omega

end Go.Proofs.Ytkhmbceadeejpaa

/- The document's half. -/
namespace Go.Proofs.Ytkhmbceadeejpaa
set_option linter.unusedVariables false
set_option linter.unusedSimpArgs false
open Go.RowKit

/-- append onto a slice of the call's own, as one step of a region that draws. -/
theorem step_append_own {P : Program} {ops : Array Oper} {o : Oper} {a : Act} {w : World} {K : Act → World → Prop} {Q : Exit → Act → World → Prop} {E : Prop} (hg : o.guard = none) (s x : Operand) (t : TypeId)
    (ho : o.op = .call { callee := .builtin .append, args := #[s, x], argTypes := #[t, t] })
    (base : Nat) (e : TypeId) (i : TypeInfo) (z : Value) (size bytes : Nat) (ht : P.underlying t = some (.slice e)) (hi : P.info? e = some i) (hz : i.zero = some z)
    (hsize : i.size = size) (hby : i.bytes = bytes) (hzs : z.cells.size = size) (hsz : 0 < size)
    (v : Value) (n : Nat) (xs : List Value) (hs : a.eval s = v) (hown : w.ownsRow base e size v n xs)
    (ad : Addr) (m c : Nat) (news : List Value) (hx : a.eval x = .slice (some ad) m c) (hl : news.length = m * size) (hnews : ∀ j u, news[j]? = some u → w.cell? (ad.add j) = some u) (h1 : ∀ u ∈ news, u.oneCell' = true)
    (h63 : n + m ≤ maxLen) (hbytes : (n + m) * bytes ≤ 140737488355328) (hbase : base ≤ w.heap.size)
    (hK : ∀ v' w', w'.ownsRow base e size v' (n + m) (xs ++ news) → w.grownBy w' v.ownBlock → K (a.put o.dst v') w') :
    if Region.wanted o (yielded ops a.tmps) = true then Oper.wp P o a w K Q else E := by
  rw [if_pos (by simp [Region.wanted, hg])]
  exact wp_append_own w s x t ho base e i z size bytes ht hi hz hsize hby hzs hsz v n xs hs hown ad m c news hx hl hnews h1 h63 hbytes hbase fun v' w' h2 h3 _ => hK v' w' h2 h3

end Go.Proofs.Ytkhmbceadeejpaa

/- The document's greatest common divisor. -/
namespace Go.Proofs.Ytkhmbceadeejpaa
set_option linter.unusedVariables false
set_option linter.unusedSimpArgs false
open Go.RowKit

theorem pos_len {zs : List Int} (h : can zs) (hl : ¬ zs.length = 0) : 0 < val zs := by
  have h1 := can_low h (by omega)
  have h2 := pw_pos (zs.length - 1)
  omega

theorem len_val {zs : List Int} (h : can zs) (hv : ¬ val zs = 0) : ¬ zs.length = 0 := fun e => hv ((can_zero h).1 e)

/-- The lowest limb of a number that is not 0. -/
theorem low_cell {base : Nat} {w : World} {a : Option Addr} {c : Nat} {zs : List Int} (h : Own base w (.slice a zs.length c) zs) (hl : ¬ zs.length = 0) : ∃ g o, a = some ⟨g, o, none⟩ ∧ w.cell? ⟨g, o, none⟩ = some (.int .u32 (zs.getD 0 0)) := by
  obtain ⟨_, _, _, e1, _, _, _, r1⟩ := h.rd
  rcases r1 with r1 | ⟨g1, f1, ea1, _, k1⟩
  · exact absurd r1 hl
  cases e1
  exact ⟨g1, f1, ea1, k1 0 (by omega)⟩

theorem twos_bound {A x : Int} {t L : Nat} (h : A = p2 t * x) (hx : 0 < x) (hA : A < pw L) : t < 32 * L := by
  by_cases hle : t < 32 * L
  · exact hle
  · have h1 := p2_mono (show 32 * L ≤ t by omega)
    rw [← pw_p2] at h1
    have h2 : p2 t * 1 ≤ p2 t * x := Int.mul_le_mul_of_nonneg_left (by omega) (Int.le_of_lt (p2_pos t))
    omega

/-- How a pair stands in the second loop: not both are even and not 0. -/
def Odd1 (x y : Int) : Prop := x = 0 ∨ y = 0 ∨ ¬ x % 2 = 0 ∨ ¬ y % 2 = 0

end Go.Proofs.Ytkhmbceadeejpaa

/- The document's Gcd; both divisions in one form. -/
namespace Go.Proofs.Ytkhmbceadeejpaa
set_option linter.unusedVariables false
set_option linter.unusedSimpArgs false
open Go.RowKit

def DivSpec (A B : Int) (qs rs : List Int) (b : Bool) : Prop := (B = 0 ∧ qs = [] ∧ rs = [] ∧ b = false) ∨ (0 < B ∧ b = true ∧ can qs ∧ can rs ∧ A = val qs * B + val rs ∧ val rs < B)

theorem DivSpec.unique {A B : Int} {q r q' r' : List Int} {b b' : Bool} (h : DivSpec A B q r b) (h' : DivSpec A B q' r' b') : q = q' ∧ r = r' ∧ b = b' := by
  rcases h with ⟨e, rfl, rfl, rfl⟩ | ⟨h0, rfl, cq, cr, hv, hl⟩
  · rcases h' with ⟨_, rfl, rfl, rfl⟩ | ⟨h0, _⟩
    · exact ⟨rfl, rfl, rfl⟩
    · omega
  · rcases h' with ⟨e, _⟩ | ⟨_, rfl, cq', cr', hv', hl'⟩
    · omega
    · obtain ⟨e1, e2⟩ := ref_div_unique A B _ _ _ _ hv (val_bound cr.1).1 hl hv' (val_bound cr'.1).1 hl'
      exact ⟨can_inj cq cq' e1, can_inj cr cr' e2, rfl⟩

def Divs (w : World) (A B : Int) (e : Ending) (w' : World) : Prop :=
  ∃ qs rs a c a2 c2 b, e = .returned (.tuple #[.slice a qs.length c, .slice a2 rs.length c2, .bool b]) ∧ Own w.heap.size w' (.slice a qs.length c) qs ∧ Own w.heap.size w' (.slice a2 rs.length c2) rs ∧ Hid (DivSpec A B qs rs b) ∧ Below w.heap.size w w'

theorem divMod_form {B1 B2 : Nat} {w : World} {v1 v2 : Value} {xs ys : List Int} (h1 : Rd B1 w v1 xs) (hB1 : B1 ≤ w.heap.size) (h2 : Rd B2 w v2 ys) (hB2 : B2 ≤ w.heap.size) (hn : xs.length ≤ 1000000) (hm : ys.length ≤ 1000000) :
    Calls Try.prog 58 #[v1, v2] w fun e w' => Divs w (val xs) (val ys) e w' := by
  by_cases h0 : val ys = 0
  · refine (divMod_zero h2 h0).mono ?_
    rintro e w' ⟨rfl, rfl⟩
    exact ⟨[], [], none, 0, none, 0, false, rfl, own_nil _ _, own_nil _ _, Or.inl ⟨h0, rfl, rfl, rfl⟩, Below.refl _ _⟩
  · refine (divMod_any h1 hB1 h2 hB2 h0 (by omega) (by omega)).mono ?_
    rintro e w' ⟨qs, rs, a, c, a2, c2, rfl, oq, or, cq, cr, hv, hl, _, _, hb⟩
    exact ⟨qs, rs, a, c, a2, c2, true, rfl, oq, or, Or.inr ⟨by have := (val_bound h2.lim).1; omega, rfl, cq, cr, hv, hl⟩, hb⟩

end Go.Proofs.Ytkhmbceadeejpaa

/- The document's numbers: one, Right, Make; the statements' helper same. -/
namespace Go.Proofs.Ytkhmbceadeejpaa
set_option linter.unusedVariables false
set_option linter.unusedSimpArgs false
open Go.RowKit

theorem cmpI_zero' {a b : Int} : cmpI a b = 0 ↔ a = b := by
  unfold cmpI
  split
  · omega
  · split <;> omega
theorem one_val' : val [(1 : Int)] = 1 := by decide
theorem gcdV_two (x y : List Int) (hx : 0 ≤ val x) : gcdV [x, y] = gI (val x) (val y) := by
  simp only [gcdV, List.foldl]
  rw [gI_zero_left _ hx]

theorem gI_len {g us vs : List Int} (cg : can g) (cv : can vs) (vg : val g = gI (val us) (val vs)) (hu : 0 ≤ val us) (hv : 0 < val vs) : g.length ≤ vs.length := by
  have hgp : 0 < val g := by rw [vg]; exact gI_pos _ _ hu hv
  obtain ⟨_, ⟨k2, hk2, _⟩⟩ := gI_dvd (val us) (val vs) hu (Int.le_of_lt hv)
  rw [← vg] at hk2
  rw [can_len_pw cg]
  have h5 : val g ≤ val vs := by
    rcases Int.lt_or_le 0 k2 with h7 | h7
    · have := Int.mul_le_mul_of_nonneg_right (show (1 : Int) ≤ k2 by omega) (Int.le_of_lt hgp)
      omega
    · have : k2 * val g ≤ 0 := Int.mul_nonpos_of_nonpos_of_nonneg h7 (Int.le_of_lt hgp)
      omega
  have h6 := (can_len_pw cv vs.length).1 (Nat.le_refl _)
  omega

end Go.Proofs.Ytkhmbceadeejpaa

/- The document's Make by nought. -/
namespace Go.Proofs.Ytkhmbceadeejpaa
set_option linter.unusedVariables false
set_option linter.unusedSimpArgs false
open Go.RowKit

end Go.Proofs.Ytkhmbceadeejpaa

/- The document's Make. -/
namespace Go.Proofs.Ytkhmbceadeejpaa
set_option linter.unusedVariables false
set_option linter.unusedSimpArgs false
open Go.RowKit

theorem right_signed {b : Bool} {ns ds : List Int} {N D : Int} (cn : can ns) (cd : can ds) (hd : 0 < ds.length) (hg : gI (val ns) (val ds) = 1) (hv : sg b (val ns) * D = N * val ds) (l1 : ¬ 32 < ns.length) (l2 : ¬ 32 < ds.length) : RightP (b && decide (0 < ns.length)) ns ds ∧ sg (b && decide (0 < ns.length)) (val ns) * D = N * val ds := by
  refine ⟨⟨by omega, by omega, cn, cd, ?_, hd, hg⟩, ?_⟩
  · rintro ⟨hx, hz⟩
    rw [decide_eq_false (by omega)] at hx
    simp at hx
  · by_cases h0 : 0 < ns.length
    · rw [decide_eq_true h0, Bool.and_true]; exact hv
    · have hz := (can_zero cn).1 (by omega)
      rw [hz, sg_zero] at hv
      rw [hz, sg_zero]; exact hv

end Go.Proofs.Ytkhmbceadeejpaa

/- What makings answer, in one form; the statements' helper same. -/
namespace Go.Proofs.Ytkhmbceadeejpaa
set_option linter.unusedVariables false
set_option linter.unusedSimpArgs false
open Go.RowKit

/-- What is made of N by D: an error, or the number. -/
def MakeSpec (N D : Int) (b : Bool) (ns ds : List Int) (err : Int) : Prop :=
  (D = 0 ∧ err = 22 ∧ b = false ∧ ns = [] ∧ ds = []) ∨ (0 < D ∧ err = 8 ∧ b = false ∧ ns = [] ∧ ds = [] ∧ Big N D) ∨ (0 < D ∧ err = 0 ∧ RightP b ns ds ∧ sg b (val ns) * D = N * val ds)
theorem MakeSpec.unique {N D : Int} {b c : Bool} {ns ds ms es : List Int} {e f : Int} (h : MakeSpec N D b ns ds e) (k : MakeSpec N D c ms es f) : c = b ∧ ms = ns ∧ es = ds ∧ f = e := by
  rcases h with ⟨hD, rfl, rfl, rfl, rfl⟩ | ⟨hD, rfl, rfl, rfl, rfl, hb⟩ | ⟨hD, rfl, hr, hv⟩ <;> rcases k with ⟨kD, rfl, rfl, rfl, rfl⟩ | ⟨kD, rfl, rfl, rfl, rfl, kb⟩ | ⟨kD, rfl, kr, kv⟩
  · exact ⟨rfl, rfl, rfl, rfl⟩
  · omega
  · omega
  · omega
  · exact ⟨rfl, rfl, rfl, rfl⟩
  · exact absurd hb (not_big kr kv kD)
  · omega
  · exact absurd kb (not_big hr hv hD)
  · obtain ⟨rfl, rfl, rfl⟩ := right_is hr hv hD kr kv
    exact ⟨rfl, rfl, rfl, rfl⟩
/-- A number with an error is answered. -/
def RAns (w : World) (b : Bool) (ns ds : List Int) (err : Int) (e : Ending) (w' : World) : Prop :=
  Below w.heap.size w w' ∧ ∃ a1 c1 a2 c2, e = .returned (.tuple #[.agg #[.bool b, .slice a1 ns.length c1, .slice a2 ds.length c2], .int .i64 err]) ∧ Rd w'.heap.size w' (.slice a1 ns.length c1) ns ∧ Rd w'.heap.size w' (.slice a2 ds.length c2) ds
theorem RMakes.spec {w w' : World} {N D : Int} {e : Ending} (h : RMakes w N D e w') (hD : 0 < D) : ∃ b ns ds err, Hid (MakeSpec N D b ns ds err) ∧ RAns w b ns ds err e w' := by
  obtain ⟨hb, ⟨rfl, hbig⟩ | ⟨b, ns, ds, a1, c1, a2, c2, rfl, on, od, hr, hv⟩⟩ := h
  · exact ⟨false, [], [], 8, Or.inr (Or.inl ⟨hD, rfl, rfl, rfl, rfl, hbig⟩), hb, none, 0, none, 0, rfl, nil_rd _, nil_rd _⟩
  · exact ⟨b, ns, ds, 0, Or.inr (Or.inr ⟨hD, rfl, hr, hv⟩), hb, a1, c1, a2, c2, rfl, on.rd, od.rd⟩
theorem err_spec {w w' : World} {N : Int} {e : Ending} (hb : Below w.heap.size w w') (he : e = errOf 22) : ∃ b ns ds err, Hid (MakeSpec N 0 b ns ds err) ∧ RAns w b ns ds err e w' :=
  ⟨false, [], [], 22, Or.inl ⟨rfl, rfl, rfl, rfl, rfl⟩, hb, none, 0, none, 0, he, nil_rd _, nil_rd _⟩

section
variable {w : World} {b : Bool} {a1 a2 a3 a4 : Option Addr} {c1 c2 c3 c4 : Nat} {xs ys ns ds : List Int}
theorem make_spec (h1 : Rd w.heap.size w (.slice a1 xs.length c1) xs) (h2 : Rd w.heap.size w (.slice a2 ys.length c2) ys) (n1 : xs.length ≤ 10000) (n2 : ys.length ≤ 10000) :
    Calls Try.prog 40 #[.bool b, .slice a1 xs.length c1, .slice a2 ys.length c2] w fun e w' => ∃ c ns ds err, Hid (MakeSpec (sg b (val xs)) (val ys) c ns ds err) ∧ RAns w c ns ds err e w' := by
  by_cases hy : val ys = 0
  · rw [hy]
    exact (make_zero b h1 (Nat.le_refl _) h2 (Nat.le_refl _) n1 n2 hy).mono (fun e w' h => err_spec h.1 h.2)
  · have hp : 0 < val ys := by have := (val_bound h2.lim).1; omega
    exact (make_any b _ h1 (Nat.le_refl _) h2 (Nat.le_refl _) n1 n2 hp rfl).mono (fun e w' h => h.spec hp)
end
end Go.Proofs.Ytkhmbceadeejpaa
