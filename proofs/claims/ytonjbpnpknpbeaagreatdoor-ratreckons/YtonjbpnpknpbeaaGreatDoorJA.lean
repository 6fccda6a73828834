/- rat.Binomial of every two numbers. -/
import Derived.Test.YtonjbpnpknpbeaaGreatDoorJ8
import Derived.Test.YtonjbpnpknpbeaaGreatDoorJ7
import Derived.Deep.Cut
import Derived.Deep.CutRange
import Derived.Deep.RegionHeld3
namespace Go.Proofs.YtonjbpnpknpbeaaGreatDoor
set_option linter.unusedVariables false
set_option linter.unusedSimpArgs false
open Go.RowKit

/-- What a number of sets answers: N of them. -/
def CountSpec (P C : Prop) (N : Nat) (b : Bool) (ns ds : List Int) (err : Int) : Prop :=
  (¬ P ∧ err = 22 ∧ b = false ∧ ns = [] ∧ ds = []) ∨ (P ∧ ¬ C ∧ err = 3 ∧ b = false ∧ ns = [] ∧ ds = []) ∨ (P ∧ C ∧ pw 32 ≤ (N : Int) ∧ err = 8 ∧ b = false ∧ ns = [] ∧ ds = []) ∨ (P ∧ C ∧ (N : Int) < pw 32 ∧ err = 0 ∧ b = false ∧ can ns ∧ val ns = (N : Int) ∧ ds = [1])
theorem CountSpec.unique {P C : Prop} {N : Nat} {b c : Bool} {ns ds ms es : List Int} {e f : Int} (h : CountSpec P C N b ns ds e) (k : CountSpec P C N c ms es f) : c = b ∧ ms = ns ∧ es = ds ∧ f = e := by
  rcases h with ⟨hp, rfl, rfl, rfl, rfl⟩ | ⟨hp, hc, rfl, rfl, rfl, rfl⟩ | ⟨hp, hc, h1, rfl, rfl, rfl, rfl⟩ | ⟨hp, hc, h1, rfl, rfl, cn, vn, rfl⟩ <;> rcases k with ⟨kp, rfl, rfl, rfl, rfl⟩ | ⟨kp, kc, rfl, rfl, rfl, rfl⟩ | ⟨kp, kc, k1, rfl, rfl, rfl, rfl⟩ | ⟨kp, kc, k1, rfl, rfl, cm, vm, rfl⟩
  all_goals first | exact ⟨rfl, rfl, rfl, rfl⟩ | exact absurd kp hp | exact absurd hp kp | exact absurd kc hc | exact absurd hc kc | (exfalso; omega) | exact ⟨rfl, can_inj cm cn (by rw [vn, vm]), rfl, rfl⟩

section
variable {w : World} {bx cy : Bool} {a1 a2 a3 a4 : Option Addr} {c1 c2 c3 c4 : Nat} {xn xd yn yd : List Int}
end
end Go.Proofs.YtonjbpnpknpbeaaGreatDoor

/- rat.Factorial. -/
namespace Go.Proofs.YtonjbpnpknpbeaaGreatDoor
set_option linter.unusedVariables false
set_option linter.unusedSimpArgs false
open Go.RowKit

/-- The product of 1 to n. -/
def nfact : Nat → Nat
  | 0 => 1
  | n + 1 => nfact n * (n + 1)
theorem nfact_grow (n : Nat) : nfact n ≤ nfact (n + 1) := Nat.le_mul_of_pos_right _ (Nat.succ_pos n)
theorem nfact_mono {j F : Nat} (h : j ≤ F) : nfact j ≤ nfact F := by
  induction F with
  | zero => have : j = 0 := by omega
            subst this; exact Nat.le_refl _
  | succ F ih =>
    by_cases hj : j = F + 1
    · subst hj; exact Nat.le_refl _
    · exact Nat.le_trans (ih (by omega)) (nfact_grow F)

section
variable {w : World} {b : Bool} {a1 a2 : Option Addr} {c1 c2 : Nat} {xn xd : List Int}
end
end Go.Proofs.YtonjbpnpknpbeaaGreatDoor

/- The document's whole and Factorial. -/
namespace Go.Proofs.YtonjbpnpknpbeaaGreatDoor
set_option linter.unusedVariables false
set_option linter.unusedSimpArgs false
open Go.RowKit

theorem big_whole {N : Int} (h : Big N 1) (h0 : 0 ≤ N) : pw 32 ≤ N := by
  obtain ⟨b, ns, ds, cn, cd, hd, hg, hv, hl⟩ := h
  rw [Int.mul_one] at hv
  have e := whole_den cn cd hd hg hv
  subst e
  rw [one_val, Int.mul_one] at hv
  have hl2 : 32 < ns.length := by simp at hl; omega
  have h5 : ¬ val ns < pw 32 := fun h => by have := (can_len_pw cn 32).2 h; omega
  have h6 := (val_bound cn.1).1
  have h7 := pw_pos 32
  have h8 : sg b (val ns) = val ns ∨ sg b (val ns) = -(val ns) := by unfold sg; split <;> simp
  omega
theorem right_whole {c : Bool} {ns ds : List Int} {N : Int} (hr : RightP c ns ds) (hv : sg c (val ns) * 1 = N * val ds) (h0 : 0 < N) : c = false ∧ val ns = N ∧ ds = [1] ∧ N < pw 32 := by
  rw [Int.mul_one] at hv
  have e := whole_den hr.2.2.1 hr.2.2.2.1 hr.2.2.2.2.2.1 hr.2.2.2.2.2.2 hv
  have hp := (right_pos hr).2
  have hl := (can_len_pw hr.2.2.1 32).1 hr.1
  subst e
  rw [one_val, Int.mul_one] at hv
  cases c with
  | true => have h2 : sg true (val ns) = -(val ns) := by simp [sg]
            omega
  | false => rw [sg_false] at hv; exact ⟨rfl, hv, rfl, by omega⟩
theorem rmakes_count {w w' : World} {P C : Prop} {N : Nat} {e : Ending} (hP : P) (hC : C) (h0 : 0 < N) (h : RMakes w (N : Int) 1 e w') : ∃ c ns ds err, Hid (CountSpec P C N c ns ds err) ∧ RAns w c ns ds err e w' := by
  obtain ⟨hb, ⟨he, hbig⟩ | ⟨c, ns, ds, a1, c1, a2, c2, he, on, od, hr, hv⟩⟩ := h
  · exact ⟨false, [], [], 8, Or.inr (Or.inr (Or.inl ⟨hP, hC, big_whole hbig (by omega), rfl, rfl, rfl, rfl⟩)), hb, none, 0, none, 0, he, nil_rd _, nil_rd _⟩
  · obtain ⟨e1, e2, e3, e4⟩ := right_whole hr hv (by omega)
    exact ⟨c, ns, ds, 0, Or.inr (Or.inr (Or.inr ⟨hP, hC, e4, rfl, e1, hr.2.2.1, e2, e3⟩)), hb, a1, c1, a2, c2, he, on.rd, od.rd⟩
theorem nfact_pos (n : Nat) : 0 < nfact n := by
  induction n with
  | zero => decide
  | succ n ih => exact Nat.mul_pos ih (Nat.succ_pos n)
theorem nfact_great {n : Nat} (h : 1000 < n) : pw 32 ≤ (nfact n : Int) := by
  have h1 := nfact_mono (show 200 ≤ n by omega)
  have h2 : pw 32 ≤ ((nfact 200 : Nat) : Int) := by decide +kernel
  omega

section
variable {w : World} {b : Bool} {a1 a2 : Option Addr} {c1 c2 : Nat} {xn xd : List Int}
end
end Go.Proofs.YtonjbpnpknpbeaaGreatDoor

/- The document's Zero and Binomial. -/
namespace Go.Proofs.YtonjbpnpknpbeaaGreatDoor
set_option linter.unusedVariables false
set_option linter.unusedSimpArgs false
open Go.RowKit

theorem binom_up {n j : Nat} (h : j < n) : binom n (j + 1) * (j + 1) = binom n j * (n - j) := by
  obtain ⟨m, rfl⟩ : ∃ m, n = m + 1 := ⟨n - 1, by omega⟩
  have h1 := binom_absorb m j
  have h2 := binom_absorb m (m - j)
  have h3 := binom_sym (m + 1) j (m - j + 1) (by omega)
  have h4 := binom_sym m (m - j) j (by omega)
  rw [h4] at h2
  rw [h3, Nat.mul_comm, h1, ← h2, Nat.mul_comm]
  congr 1
  omega
theorem binom_rise {n j : Nat} (h : 2 * (j + 1) ≤ n + 1) (hj : j < n) : binom n j ≤ binom n (j + 1) := by
  have h1 := binom_up hj
  have h2 : binom n j * (j + 1) ≤ binom n j * (n - j) := Nat.mul_le_mul_left _ (by omega)
  rw [← h1] at h2
  exact Nat.le_of_mul_le_mul_right h2 (Nat.succ_pos j)
theorem binom_below {n L : Nat} (hL : 2 * L ≤ n) : ∀ d j, j + d = L → binom n j ≤ binom n L := by
  intro d
  induction d with
  | zero => intro j h; have : j = L := by omega
            subst this; exact Nat.le_refl _
  | succ d ih => intro j h; exact Nat.le_trans (binom_rise (by omega) (by omega)) (ih (j + 1) (by omega))
theorem binom_pos {n : Nat} : ∀ {k : Nat}, k ≤ n → 0 < binom n k := by
  induction n with
  | zero => intro k h; have : k = 0 := by omega
            subst this; decide
  | succ n ih =>
    intro k h
    match k, h with
    | 0, _ => rw [binom_zero]; decide
    | k + 1, h => rw [binom_succ]; have := ih (k := k) (by omega); omega

set_option maxRecDepth 100000 in
set_option maxHeartbeats 1600000 in
theorem refZero_any (w : World) : Calls Tryz.prog 20 #[] w fun e w' => ∃ ds, Hid (ds = [(1 : Int)]) ∧ NumAns w false [] ds e w' := by
  have R := rvar_new w
  have g := below_alloc w (.cells #[.bool false, .slice none 0 0, .slice none 0 0] 24)
  go_enter Tryz.func20, Tryz.ntmps20
  go_wp2_with fail
  generalize hA : w.alloc (.cells #[.bool false, .slice none 0 0, .slice none 0 0] 24) = v at *
  clear hA
  refine (refOne_any _).mono ?_
  rintro e wa ⟨ds, a, c, HD, rfl, od, ka⟩
  have R2 := R.below ka
  have q0 := R2.box.c0
  have q1 := R2.box.c1
  have q2 := R2.box.c2
  have p0 := R2.box.f0
  have p1 := R2.box.f1
  have p2 := R2.box.f2
  go_wp2
  have hR3 := R2.box.set (.bool false) (.slice none 0 0) (.slice a ds.length c)
  have r0 := hR3.c0
  have r1 := hR3.c1
  have r2 := hR3.c2
  refine bodyPost_ret (v := .agg #[.bool false, .slice none 0 0, .slice a ds.length c]) (by simp [results, Tryz.results20, go_sem, r0, r1, r2]) rfl ?_
  exact ⟨ds, HD, Below.set3 (g.trans (ka.mono g.size)) (Nat.le_refl _) _ _ _, none, 0, a, c, rfl, ⟨lim_nil, World.ownsRow_nil _ _ _ _⟩, (Own.set3 od R.lt _ _ _).mono g.size⟩

section
variable {w : World} {bx cy : Bool} {a1 a2 a3 a4 : Option Addr} {c1 c2 c3 c4 : Nat} {xn xd yn yd : List Int}
end
end Go.Proofs.YtonjbpnpknpbeaaGreatDoor

/- The document's all, of three; its 0; a number that is made and known. -/
namespace Go.Proofs.YtonjbpnpknpbeaaGreatDoor
set_option linter.unusedVariables false
set_option linter.unusedSimpArgs false
open Go.RowKit

theorem refZero_hid (w : World) : Calls Tryz.prog 20 #[] w fun e w' => ∃ b zs ds, Hid (RightP b zs ds ∧ sg b (val zs) = 0 ∧ val ds = 1) ∧ NumAns w b zs ds e w' := by
  refine (refZero_any w).mono ?_
  rintro e w' ⟨ds, HD, h⟩
  refine ⟨false, [], ds, ?_, h⟩
  unfold Hid
  rw [HD.out]
  exact ⟨⟨by decide, by decide, ⟨lim_nil, Or.inl rfl⟩, can_one, (fun h => by cases h.1), by decide, by decide⟩, by decide, by decide⟩
theorem refUnit_hid (w : World) : Calls Tryz.prog 26 #[.int .i64 1] w fun e w' => ∃ b zs ds, Hid (RightP b zs ds ∧ sg b (val zs) = 1 ∧ val ds = 1) ∧ NumAns w b zs ds e w' := by
  refine (refOfInt_any 1 (by decide) (by decide) w).mono ?_
  rintro e w' ⟨k2, b1, ns, ds, x1, y1, x2, y2, HW, rfl, on, od⟩
  exact ⟨b1, ns, ds, ⟨HW.out.right, HW.out.sg.1, HW.out.sg.2⟩, k2, x1, y1, x2, y2, rfl, on, od⟩
theorem rmakes_is {w w' : World} {N D : Int} {e : Ending} {b : Bool} {ns ds : List Int} (h : RMakes w N D e w') (hD : 0 < D) (hr : RightP b ns ds) (hv : sg b (val ns) * D = N * val ds) : Below w.heap.size w w' ∧ ∃ x1 y1 x2 y2, e = .returned (.tuple #[.agg #[.bool b, .slice x1 ns.length y1, .slice x2 ds.length y2], .int .i64 0]) ∧ Own w.heap.size w' (.slice x1 ns.length y1) ns ∧ Own w.heap.size w' (.slice x2 ds.length y2) ds := by
  obtain ⟨hb, ⟨rfl, hbig⟩ | ⟨c, ms, es, x1, y1, x2, y2, rfl, on, od, kr, kv⟩⟩ := h
  · exact absurd hbig (not_big hr hv hD)
  · obtain ⟨rfl, rfl, rfl⟩ := right_is hr hv hD kr kv
    exact ⟨hb, x1, y1, x2, y2, rfl, on, od⟩
/-- What a making left in a variable. -/
def OutV (w : World) (N D : Int) (b : Bool) (x1 : Option Addr) (n y1 : Nat) (x2 : Option Addr) (m y2 : Nat) (err : Int) : Prop :=
  (err = 8 ∧ b = false ∧ x1 = none ∧ n = 0 ∧ y1 = 0 ∧ x2 = none ∧ m = 0 ∧ y2 = 0 ∧ Big N D) ∨ (err = 0 ∧ ∃ ns ds, n = ns.length ∧ m = ds.length ∧ Rd w.heap.size w (.slice x1 n y1) ns ∧ Rd w.heap.size w (.slice x2 m y2) ds ∧ RightP b ns ds ∧ sg b (val ns) * D = N * val ds)
section
variable {w w' : World} {N D : Int} {b : Bool} {x1 x2 : Option Addr} {n y1 m y2 k : Nat} {err : Int}
theorem OutV.of (h : Hid ((err = 8 ∧ b = false ∧ x1 = none ∧ n = 0 ∧ y1 = 0 ∧ x2 = none ∧ m = 0 ∧ y2 = 0 ∧ Big N D) ∨ (err = 0 ∧ ∃ ns ds, n = ns.length ∧ m = ds.length ∧ Own k w (.slice x1 n y1) ns ∧ Own k w (.slice x2 m y2) ds ∧ RightP b ns ds ∧ sg b (val ns) * D = N * val ds))) : Hid (OutV w N D b x1 n y1 x2 m y2 err) := by
  rcases h.out with h | ⟨rfl, ns, ds, rfl, rfl, on, od, hr, hv⟩
  · exact Or.inl h
  · exact Or.inr ⟨rfl, ns, ds, rfl, rfl, on.rd, od.rd, hr, hv⟩
theorem OutV.below (h : Hid (OutV w N D b x1 n y1 x2 m y2 err)) (hb : Below w.heap.size w w') : Hid (OutV w' N D b x1 n y1 x2 m y2 err) := by
  rcases h.out with h | ⟨rfl, ns, ds, rfl, rfl, on, od, hr, hv⟩
  · exact Or.inl h
  · exact Or.inr ⟨rfl, ns, ds, rfl, rfl, (on.below hb).mono hb.size, (od.below hb).mono hb.size, hr, hv⟩
theorem OutV.put {K ty n1 n2 m1 m2 : Nat} {c : Bool} {z1 z2 : Option Addr} (h : Hid (OutV w N D b x1 n y1 x2 m y2 err)) (hk : Box3 w K ty (.bool c) (.slice z1 n1 m1) (.slice z2 n2 m2)) (x y z : Value) : Hid (OutV (((w.setCell ⟨K, 0, none⟩ x).setCell ⟨K, 1, none⟩ y).setCell ⟨K, 2, none⟩ z) N D b x1 n y1 x2 m y2 err) := by
  rcases h.out with h | ⟨rfl, ns, ds, rfl, rfl, on, od, hr, hv⟩
  · exact Or.inl h
  · exact Or.inr ⟨rfl, ns, ds, rfl, rfl, on.put' hk _ _ _, od.put' hk _ _ _, hr, hv⟩
end
section
variable {Lb : Nat} {w : World} {bx cy dz : Bool} {a1 a2 a3 a4 a5 a6 : Option Addr} {c1 c2 c3 c4 c5 c6 : Nat} {xn xd yn yd zn zd : List Int}
set_option maxRecDepth 100000 in
set_option maxHeartbeats 6400000 in
theorem refAll3 (hT : Three w Lb (.bool bx) (.slice a1 xn.length c1) (.slice a2 xd.length c2) (.bool cy) (.slice a3 yn.length c3) (.slice a4 yd.length c4) (.bool dz) (.slice a5 zn.length c5) (.slice a6 zd.length c6)) (h1 : Rd w.heap.size w (.slice a1 xn.length c1) xn) (h2 : Rd w.heap.size w (.slice a2 xd.length c2) xd) (h3 : Rd w.heap.size w (.slice a3 yn.length c3) yn) (h4 : Rd w.heap.size w (.slice a4 yd.length c4) yd) (h5 : Rd w.heap.size w (.slice a5 zn.length c5) zn) (h6 : Rd w.heap.size w (.slice a6 zd.length c6) zd) :
    Calls Tryz.prog 19 #[.slice (some ⟨Lb, 0, none⟩) 3 3] w fun e w' => TellsP (RightP bx xn xd ∧ RightP cy yn yd ∧ RightP dz zn zd) e ∧ Below w.heap.size w w' := by
  have hT0 := hT
  have b0 := Below.refl w.heap.size w
  obtain ⟨lt, k0, k1, k2, k3, k4, k5, k6, k7, k8⟩ := hT
  go_enter Tryz.func19, Tryz.ntmps19
  go_wp2
  refine wp_loop_rounds 4 ?_
  rw [rounds_succ]
  go_wp2_with fail
  refine (refRight_rat h1 h2).mono ?_
  rintro e w0 ⟨⟨r, rfl, hr⟩, ba⟩
  replace b0 := b0.trans (ba.mono b0.size)
  replace h3 := (h3.below ba).mono ba.size
  replace h4 := (h4.below ba).mono ba.size
  replace h5 := (h5.below ba).mono ba.size
  replace h6 := (h6.below ba).mono ba.size
  cases r with
  | false =>
    have HX : Hid (¬ RightP bx xn xd) := fun h => by have := hr.2 h; cases this
    clear hr
    go_wp2
    go_ret
    exact ⟨TellsP.no (fun h => HX.out h.1), b0⟩
  | true =>
    have H0 : Hid (RightP bx xn xd) := hr.1 rfl
    clear hr
    replace hT0 := hT0.below ba
    clear k0 k1 k2 k3 k4 k5 k6 k7 k8 lt
    have hT9 := hT0
    obtain ⟨lt, k0, k1, k2, k3, k4, k5, k6, k7, k8⟩ := hT9
    clear ba
    go_wp2
    rw [rounds_succ]
    go_wp2_with fail
    refine (refRight_rat h3 h4).mono ?_
    rintro e w1 ⟨⟨r, rfl, hr⟩, ba⟩
    replace b0 := b0.trans (ba.mono b0.size)
    replace h5 := (h5.below ba).mono ba.size
    replace h6 := (h6.below ba).mono ba.size
    cases r with
    | false =>
      have HX : Hid (¬ RightP cy yn yd) := fun h => by have := hr.2 h; cases this
      clear hr
      go_wp2
      go_ret
      exact ⟨TellsP.no (fun h => HX.out h.2.1), b0⟩
    | true =>
      have H1 : Hid (RightP cy yn yd) := hr.1 rfl
      clear hr
      replace hT0 := hT0.below ba
      clear k0 k1 k2 k3 k4 k5 k6 k7 k8 lt
      have hT9 := hT0
      obtain ⟨lt, k0, k1, k2, k3, k4, k5, k6, k7, k8⟩ := hT9
      clear ba
      go_wp2
      rw [rounds_succ]
      go_wp2_with fail
      refine (refRight_rat h5 h6).mono ?_
      rintro e w2 ⟨⟨r, rfl, hr⟩, ba⟩
      replace b0 := b0.trans (ba.mono b0.size)
      cases r with
      | false =>
        have HX : Hid (¬ RightP dz zn zd) := fun h => by have := hr.2 h; cases this
        clear hr
        go_wp2
        go_ret
        exact ⟨TellsP.no (fun h => HX.out h.2.2), b0⟩
      | true =>
        have H2 : Hid (RightP dz zn zd) := hr.1 rfl
        clear hr
        replace hT0 := hT0.below ba
        clear k0 k1 k2 k3 k4 k5 k6 k7 k8 lt
        have hT9 := hT0
        obtain ⟨lt, k0, k1, k2, k3, k4, k5, k6, k7, k8⟩ := hT9
        clear ba
        go_wp2
        rw [rounds_succ]
        go_wp2
        go_ret
        exact ⟨TellsP.yes ⟨H0.out, H1.out, H2.out⟩, b0⟩
end
end Go.Proofs.YtonjbpnpknpbeaaGreatDoor

/- The document's Add, of three. -/
namespace Go.Proofs.YtonjbpnpknpbeaaGreatDoor
set_option linter.unusedVariables false
set_option linter.unusedSimpArgs false
open Go.RowKit

section
variable {Lb : Nat} {w : World} {bx cy dz : Bool} {a1 a2 a3 a4 a5 a6 : Option Addr} {c1 c2 c3 c4 c5 c6 : Nat} {xn xd yn yd zn zd : List Int}
set_option maxRecDepth 100000 in
set_option maxHeartbeats 64000000 in
theorem refAdd3 (hT : Three w Lb (.bool bx) (.slice a1 xn.length c1) (.slice a2 xd.length c2) (.bool cy) (.slice a3 yn.length c3) (.slice a4 yd.length c4) (.bool dz) (.slice a5 zn.length c5) (.slice a6 zd.length c6)) (h1 : Rd w.heap.size w (.slice a1 xn.length c1) xn) (h2 : Rd w.heap.size w (.slice a2 xd.length c2) xd) (h3 : Rd w.heap.size w (.slice a3 yn.length c3) yn) (h4 : Rd w.heap.size w (.slice a4 yd.length c4) yd) (h5 : Rd w.heap.size w (.slice a5 zn.length c5) zn) (h6 : Rd w.heap.size w (.slice a6 zd.length c6) zd) :
    Calls Tryz.prog 6 #[.slice (some ⟨Lb, 0, none⟩) 3 3] w fun e w' => ∃ b ns ds err, Hid (FoldSpec (RightP bx xn xd ∧ RightP cy yn yd ∧ RightP dz zn zd) true bx xn xd cy yn yd dz zn zd b ns ds err) ∧ RAns w b ns ds err e w' := by
  have R := rvar_new w
  have g := below_alloc w (.cells #[.bool false, .slice none 0 0, .slice none 0 0] 24)
  have sr : w.heap.size ≤ w.heap.size := Nat.le_refl _
  have g1 := (h1.below g).mono g.size
  have g2 := (h2.below g).mono g.size
  have g3 := (h3.below g).mono g.size
  have g4 := (h4.below g).mono g.size
  have g5 := (h5.below g).mono g.size
  have g6 := (h6.below g).mono g.size
  replace hT := hT.below g
  have hlt := hT.lt
  clear h1 h2 h3 h4 h5 h6
  go_enter Tryz.func6, Tryz.ntmps6
  go_wp2_with fail
  generalize hA : w.alloc (.cells #[.bool false, .slice none 0 0, .slice none 0 0] 24) = v at *
  clear hA
  refine (refAll3 hT g1 g2 g3 g4 g5 g6).mono ?_
  rintro e wa ⟨⟨r, rfl, hr⟩, ba⟩
  replace R := R.below ba
  replace g := g.trans (ba.mono g.size)
  replace g1 := (g1.below ba).mono ba.size
  replace g2 := (g2.below ba).mono ba.size
  replace g3 := (g3.below ba).mono ba.size
  replace g4 := (g4.below ba).mono ba.size
  replace g5 := (g5.below ba).mono ba.size
  replace g6 := (g6.below ba).mono ba.size
  replace hT := hT.below ba
  clear ba
  cases r with
  | false =>
    have HP : Hid (¬ (RightP bx xn xd ∧ RightP cy yn yd ∧ RightP dz zn zd)) := fun h => by have := hr.2 h; cases this
    clear hr
    have q0 := R.box.c0
    have q1 := R.box.c1
    have q2 := R.box.c2
    have p0 := R.box.f0
    have p1 := R.box.f1
    have p2 := R.box.f2
    go_wp2
    have hR3 := R.box.set (.bool false) (.slice none 0 0) (.slice none 0 0)
    have r0 := hR3.c0
    have r1 := hR3.c1
    have r2 := hR3.c2
    refine bodyPost_ret (v := .tuple #[.agg #[.bool false, .slice none 0 0, .slice none 0 0], .int .i64 22]) (by simp [results, Tryz.results6, go_sem, r0, r1, r2]) rfl ?_
    exact ⟨false, [], [], 22, Or.inl ⟨HP.out, rfl, rfl, rfl, rfl⟩, Below.set3 g sr _ _ _, none, 0, none, 0, rfl, nil_rd _, nil_rd _⟩
  | true =>
    have HP : Hid (RightP bx xn xd ∧ RightP cy yn yd ∧ RightP dz zn zd) := hr.1 rfl
    clear hr
    have HPX : Hid (RightP bx xn xd) := HP.out.1
    have HPY : Hid (RightP cy yn yd) := HP.out.2.1
    have HPZ : Hid (RightP dz zn zd) := HP.out.2.2
    go_wp2_with fail
    refine (refZero_hid _).mono ?_
    rintro e wz ⟨b0, n0, d0, HZ, kz, z1, z2, z3, z4, rfl, on, od⟩
    replace R := R.below kz
    replace g := g.trans (kz.mono g.size)
    replace g1 := (g1.below kz).mono kz.size
    replace g2 := (g2.below kz).mono kz.size
    replace g3 := (g3.below kz).mono kz.size
    replace g4 := (g4.below kz).mono kz.size
    replace g5 := (g5.below kz).mono kz.size
    replace g6 := (g6.below kz).mono kz.size
    replace hT := hT.below kz
    clear kz
    have on0 := on.rd
    have od0 := od.rd
    clear on od
    have HZR : Hid (RightP b0 n0 d0) := HZ.out.1
    have ka := below_alloc wz (.cells #[.bool b0, .slice z1 n0.length z2, .slice z3 d0.length z4] 24)
    have S := nvar_new (b := b0) on0 od0
    have leS : w.heap.size ≤ wz.heap.size := g.size
    have neR : w.heap.size ≠ wz.heap.size := Nat.ne_of_lt R.lt
    have neL : Lb ≠ wz.heap.size := Nat.ne_of_lt hT.lt
    replace R := R.below ka
    replace g := g.trans (ka.mono g.size)
    replace g1 := (g1.below ka).mono ka.size
    replace g2 := (g2.below ka).mono ka.size
    replace g3 := (g3.below ka).mono ka.size
    replace g4 := (g4.below ka).mono ka.size
    replace g5 := (g5.below ka).mono ka.size
    replace g6 := (g6.below ka).mono ka.size
    replace hT := hT.below ka
    clear ka on0 od0
    go_wp2
    generalize hA : wz.alloc (.cells #[.bool b0, .slice z1 n0.length z2, .slice z3 d0.length z4] 24) = v0 at *
    clear hA
    refine wp_loop_rounds 4 ?_
    rw [rounds_succ]
    obtain ⟨hlt', m0, m1, m2, m3, m4, m5, m6, m7, m8⟩ := hT
    have hT := Three.mk hlt' m0 m1 m2 m3 m4 m5 m6 m7 m8
    obtain ⟨S0, S1, S2⟩ := S.cells
    go_upto_region 7 with fail
    go_cut [6, 7] from 13 to 32 (fun p e wx => ∃ (kt : Nat) (b : Bool) (x5 : Option Addr) (n5 y5 : Nat) (x6 : Option Addr) (n6 y6 : Nat) (err : Int), p = .pointer (some ⟨kt, 0, none⟩) ∧ e = .int .i64 err ∧ Box3 wx kt 24 (.bool b) (.slice x5 n5 y5) (.slice x6 n6 y6) ∧ Hid (OutV wx (sg b0 (val n0) * val xd + sg bx (val xn) * val d0) (val d0 * val xd) b x5 n5 y5 x6 n6 y6 err) ∧ Below v0.heap.size v0 wx)
    case first =>
      have hcells : ∀ {w' : World}, Below v0.heap.size v0 w' → w'.cell? ⟨wz.heap.size, 0, none⟩ = some (.bool b0) ∧ w'.cell? ⟨wz.heap.size, 1, none⟩ = some (.slice z1 n0.length z2) ∧ w'.cell? ⟨wz.heap.size, 2, none⟩ = some (.slice z3 d0.length z4) ∧ w'.cell? ⟨Lb, 0, none⟩ = some (.bool bx) ∧ w'.cell? ⟨Lb, 1, none⟩ = some (.slice a1 xn.length c1) ∧ w'.cell? ⟨Lb, 2, none⟩ = some (.slice a2 xd.length c2) := fun hb => ⟨(S.below hb).k0, (S.below hb).k1, (S.below hb).k2, (hT.below hb).k0, (hT.below hb).k1, (hT.below hb).k2⟩
      have j1 : Rd v0.drew.heap.size v0.drew (.slice z1 n0.length z2) n0 := S.rn
      have j2 : Rd v0.drew.heap.size v0.drew (.slice z3 d0.length z4) d0 := S.rd
      have j3 : Rd v0.drew.heap.size v0.drew (.slice a1 xn.length c1) xn := g1
      have j4 : Rd v0.drew.heap.size v0.drew (.slice a2 xd.length c2) xd := g2
      have hn1 : ¬ v0.heap.size = wz.heap.size := fun h => by have := S.lt; omega
      have hn2 : ¬ wz.heap.size = v0.heap.size := fun h => by have := S.lt; omega
      have hn3 : ¬ v0.heap.size = Lb := fun h => by have := hT.lt; omega
      have hn4 : ¬ Lb = v0.heap.size := fun h => by have := hT.lt; omega
      have zI := below_alloc v0.drew (.cells #[.bool false, .slice none 0 0, .slice none 0 0] 24)
      have RI := rvar_new v0.drew
      have i1 := (j1.below zI).mono zI.size
      have i2 := (j2.below zI).mono zI.size
      have i3 := (j3.below zI).mono zI.size
      have i4 := (j4.below zI).mono zI.size
      go_region_held3 (fun w' => w'.cell? ⟨wz.heap.size, 0, none⟩ = some (.bool b0) ∧ w'.cell? ⟨wz.heap.size, 1, none⟩ = some (.slice z1 n0.length z2) ∧ w'.cell? ⟨wz.heap.size, 2, none⟩ = some (.slice z3 d0.length z4) ∧ w'.cell? ⟨Lb, 0, none⟩ = some (.bool bx) ∧ w'.cell? ⟨Lb, 1, none⟩ = some (.slice a1 xn.length c1) ∧ w'.cell? ⟨Lb, 2, none⟩ = some (.slice a2 xd.length c2))
        (first | (go_keep; done) | exact tw)
        ((go_at_call 21; refine (refTwo_rat (by first | exact j1 | exact i1) (by first | exact j2 | exact i2) (by first | exact j3 | exact i3) (by first | exact j4 | exact i4) HZR HPX).mono ?_; intro e wb hm; obtain ⟨bb, b6, x5, n5, y5, x6, n6, y6, err, rfl, hform⟩ := hm.form; have HO := OutV.of hform; first | (have RT : RVar wb v0.heap.size := RI.below bb; have bab : Below v0.heap.size v0 wb := (Below.alloc (⟨rfl, rfl, rfl, Nat.le_refl _, fun _ _ => rfl⟩ : Below v0.heap.size v0 v0.drew) (Nat.le_refl _) _).trans (bb.mono zI.size); have q0 := RT.box.c0; have q1 := RT.box.c1; have q2 := RT.box.c2; have p0 := RT.box.f0; have p1 := RT.box.f1; have p2 := RT.box.f2; have tw := hcells bab) | (have bab : Below v0.heap.size v0 wb := ⟨bb.os, bb.tape, bb.output, bb.size, bb.block⟩; have tw := hcells bab)))
      · go_wp2_with fail
        go_meet
        exact ⟨wb.heap.size, b6, x5, n5, y5, x6, n6, y6, err, rfl, rfl, box3_new _ _ _ _ _, OutV.below HO (below_alloc _ _), bab.alloc bab.size _⟩
      · go_wp2_with fail
        go_meet
        exact ⟨v0.heap.size, b6, x5, n5, y5, x6, n6, y6, err, rfl, rfl, RT.box.set _ _ _, OutV.put HO RT.box _ _ _, Below.set3 bab (Nat.le_refl _) _ _ _⟩
    case rest =>
    obtain ⟨kt, b60, x50, n5, y50, x60, n6, y60, err, rfl, rfl, TB, HO, bab⟩ := hcut
    clear S0 S1 S2 m0 m1 m2 m3 m4 m5 m6 m7 m8
    replace S := S.below bab
    replace R := R.below bab
    replace g := g.trans (bab.mono g.size)
    replace g1 := (g1.below bab).mono bab.size
    replace g2 := (g2.below bab).mono bab.size
    replace g3 := (g3.below bab).mono bab.size
    replace g4 := (g4.below bab).mono bab.size
    replace g5 := (g5.below bab).mono bab.size
    replace g6 := (g6.below bab).mono bab.size
    replace hT := hT.below bab
    rcases HO.out with ⟨rfl, rfl, rfl, rfl, rfl, rfl, rfl, rfl, hbig⟩ | ⟨rfl, ns0, ds0, rfl, rfl, on, od, hr, hv⟩
    · exact absurd hbig (not_big HPX.out (by rw [HZ.out.2.1, HZ.out.2.2]; simp [Int.mul_comm, Int.mul_left_comm]) (Int.mul_pos (right_pos HZR.out).1 (right_pos HPX.out).1))
    · obtain ⟨h7, h8, h9⟩ := right_is HPX.out (by rw [HZ.out.2.1, HZ.out.2.2]; simp [Int.mul_comm, Int.mul_left_comm]) (Int.mul_pos (right_pos HZR.out).1 (right_pos HPX.out).1) hr hv
      replace h7 := h7.symm
      replace h8 := h8.symm
      replace h9 := h9.symm
      subst h7 h8 h9
      clear hr hv HO
      have T0 := TB.c0
      have T1 := TB.c1
      have T2 := TB.c2
      have q0 := S.box.c0
      have q1 := S.box.c1
      have q2 := S.box.c2
      have p0 := S.box.f0
      have p1 := S.box.f1
      have p2 := S.box.f2
      go_wp2
      clear q0 q1 q2 p0 p1 p2 T0 T1 T2 TB
      replace R := R.by' S neR (.bool bx) (.slice x50 xn.length y50) (.slice x60 xd.length y60)
      replace hT := hT.by' neL (u0 := .bool bx) (u1 := .slice x50 xn.length y50) (u2 := .slice x60 xd.length y60)
      replace g := Below.set3 g leS (.bool bx) (.slice x50 xn.length y50) (.slice x60 xd.length y60)
      replace g3 := g3.put' S.box (.bool bx) (.slice x50 xn.length y50) (.slice x60 xd.length y60)
      replace g4 := g4.put' S.box (.bool bx) (.slice x50 xn.length y50) (.slice x60 xd.length y60)
      replace g5 := g5.put' S.box (.bool bx) (.slice x50 xn.length y50) (.slice x60 xd.length y60)
      replace g6 := g6.put' S.box (.bool bx) (.slice x50 xn.length y50) (.slice x60 xd.length y60)
      replace S := S.put (c := bx) on od
      clear on od
      clear g1 g2
      generalize hA : (((wc.setCell ⟨wz.heap.size, 0, none⟩ (.bool bx)).setCell ⟨wz.heap.size, 1, none⟩ (.slice x50 xn.length y50)).setCell ⟨wz.heap.size, 2, none⟩ (.slice x60 xd.length y60)) = vx1 at *
      clear hA
      rw [rounds_succ]
      obtain ⟨hlt', m0, m1, m2, m3, m4, m5, m6, m7, m8⟩ := hT
      have hT := Three.mk hlt' m0 m1 m2 m3 m4 m5 m6 m7 m8
      obtain ⟨S0, S1, S2⟩ := S.cells
      go_upto_region 7 with fail
      go_cut [6, 7] from 13 to 32 (fun p e wx => ∃ (kt : Nat) (b : Bool) (x5 : Option Addr) (n5 y5 : Nat) (x6 : Option Addr) (n6 y6 : Nat) (err : Int), p = .pointer (some ⟨kt, 0, none⟩) ∧ e = .int .i64 err ∧ Box3 wx kt 24 (.bool b) (.slice x5 n5 y5) (.slice x6 n6 y6) ∧ Hid (OutV wx (sg bx (val xn) * val yd + sg cy (val yn) * val xd) (val xd * val yd) b x5 n5 y5 x6 n6 y6 err) ∧ Below vx1.heap.size vx1 wx)
      case first =>
        have hcells : ∀ {w' : World}, Below vx1.heap.size vx1 w' → w'.cell? ⟨wz.heap.size, 0, none⟩ = some (.bool bx) ∧ w'.cell? ⟨wz.heap.size, 1, none⟩ = some (.slice x50 xn.length y50) ∧ w'.cell? ⟨wz.heap.size, 2, none⟩ = some (.slice x60 xd.length y60) ∧ w'.cell? ⟨Lb, 3, none⟩ = some (.bool cy) ∧ w'.cell? ⟨Lb, 4, none⟩ = some (.slice a3 yn.length c3) ∧ w'.cell? ⟨Lb, 5, none⟩ = some (.slice a4 yd.length c4) := fun hb => ⟨(S.below hb).k0, (S.below hb).k1, (S.below hb).k2, (hT.below hb).k3, (hT.below hb).k4, (hT.below hb).k5⟩
        have j1 : Rd vx1.drew.heap.size vx1.drew (.slice x50 xn.length y50) xn := S.rn
        have j2 : Rd vx1.drew.heap.size vx1.drew (.slice x60 xd.length y60) xd := S.rd
        have j3 : Rd vx1.drew.heap.size vx1.drew (.slice a3 yn.length c3) yn := g3
        have j4 : Rd vx1.drew.heap.size vx1.drew (.slice a4 yd.length c4) yd := g4
        have hn1 : ¬ vx1.heap.size = wz.heap.size := fun h => by have := S.lt; omega
        have hn2 : ¬ wz.heap.size = vx1.heap.size := fun h => by have := S.lt; omega
        have hn3 : ¬ vx1.heap.size = Lb := fun h => by have := hT.lt; omega
        have hn4 : ¬ Lb = vx1.heap.size := fun h => by have := hT.lt; omega
        have zI := below_alloc vx1.drew (.cells #[.bool false, .slice none 0 0, .slice none 0 0] 24)
        have RI := rvar_new vx1.drew
        have i1 := (j1.below zI).mono zI.size
        have i2 := (j2.below zI).mono zI.size
        have i3 := (j3.below zI).mono zI.size
        have i4 := (j4.below zI).mono zI.size
        go_region_held3 (fun w' => w'.cell? ⟨wz.heap.size, 0, none⟩ = some (.bool bx) ∧ w'.cell? ⟨wz.heap.size, 1, none⟩ = some (.slice x50 xn.length y50) ∧ w'.cell? ⟨wz.heap.size, 2, none⟩ = some (.slice x60 xd.length y60) ∧ w'.cell? ⟨Lb, 3, none⟩ = some (.bool cy) ∧ w'.cell? ⟨Lb, 4, none⟩ = some (.slice a3 yn.length c3) ∧ w'.cell? ⟨Lb, 5, none⟩ = some (.slice a4 yd.length c4))
          (first | (go_keep; done) | exact tw)
          ((go_at_call 21; refine (refTwo_rat (by first | exact j1 | exact i1) (by first | exact j2 | exact i2) (by first | exact j3 | exact i3) (by first | exact j4 | exact i4) HPX HPY).mono ?_; intro e wb hm; obtain ⟨bb, b6, x5, n5, y5, x6, n6, y6, err, rfl, hform⟩ := hm.form; have HO := OutV.of hform; first | (have RT : RVar wb vx1.heap.size := RI.below bb; have bab : Below vx1.heap.size vx1 wb := (Below.alloc (⟨rfl, rfl, rfl, Nat.le_refl _, fun _ _ => rfl⟩ : Below vx1.heap.size vx1 vx1.drew) (Nat.le_refl _) _).trans (bb.mono zI.size); have q0 := RT.box.c0; have q1 := RT.box.c1; have q2 := RT.box.c2; have p0 := RT.box.f0; have p1 := RT.box.f1; have p2 := RT.box.f2; have tw := hcells bab) | (have bab : Below vx1.heap.size vx1 wb := ⟨bb.os, bb.tape, bb.output, bb.size, bb.block⟩; have tw := hcells bab)))
        · go_wp2_with fail
          go_meet
          exact ⟨wb.heap.size, b6, x5, n5, y5, x6, n6, y6, err, rfl, rfl, box3_new _ _ _ _ _, OutV.below HO (below_alloc _ _), bab.alloc bab.size _⟩
        · go_wp2_with fail
          go_meet
          exact ⟨vx1.heap.size, b6, x5, n5, y5, x6, n6, y6, err, rfl, rfl, RT.box.set _ _ _, OutV.put HO RT.box _ _ _, Below.set3 bab (Nat.le_refl _) _ _ _⟩
      case rest =>
      obtain ⟨kt, b61, x51, n5, y51, x61, n6, y61, err, rfl, rfl, TB, HO, bab⟩ := hcut
      clear S0 S1 S2 m0 m1 m2 m3 m4 m5 m6 m7 m8
      replace S := S.below bab
      replace R := R.below bab
      replace g := g.trans (bab.mono g.size)
      replace g3 := (g3.below bab).mono bab.size
      replace g4 := (g4.below bab).mono bab.size
      replace g5 := (g5.below bab).mono bab.size
      replace g6 := (g6.below bab).mono bab.size
      replace hT := hT.below bab
      rcases HO.out with ⟨rfl, rfl, rfl, rfl, rfl, rfl, rfl, rfl, hbig⟩ | ⟨rfl, ns1, ds1, rfl, rfl, on, od, hr, hv⟩
      · have HBG : Hid (Big _ _) := hbig
        clear hbig HO TB
        have q0 := R.box.c0
        have q1 := R.box.c1
        have q2 := R.box.c2
        have p0 := R.box.f0
        have p1 := R.box.f1
        have p2 := R.box.f2
        go_wp2
        have hR3 := R.box.set (.bool false) (.slice none 0 0) (.slice none 0 0)
        have r0 := hR3.c0
        have r1 := hR3.c1
        have r2 := hR3.c2
        refine bodyPost_ret (v := .tuple #[.agg #[.bool false, .slice none 0 0, .slice none 0 0], .int .i64 8]) (by simp [results, Tryz.results6, go_sem, r0, r1, r2]) rfl ?_
        exact ⟨false, [], [], 8, Or.inr (Or.inl ⟨HP.out, HBG.out, rfl, rfl, rfl, rfl⟩), Below.set3 g sr _ _ _, none, 0, none, 0, rfl, nil_rd _, nil_rd _⟩
      · have HX1 : Hid (RightP b61 ns1 ds1 ∧ _) := ⟨hr, hv⟩
        clear hr hv HO
        have HXR1 : Hid (RightP b61 ns1 ds1) := HX1.out.1
        have T0 := TB.c0
        have T1 := TB.c1
        have T2 := TB.c2
        have q0 := S.box.c0
        have q1 := S.box.c1
        have q2 := S.box.c2
        have p0 := S.box.f0
        have p1 := S.box.f1
        have p2 := S.box.f2
        go_wp2
        clear q0 q1 q2 p0 p1 p2 T0 T1 T2 TB
        replace R := R.by' S neR (.bool b61) (.slice x51 ns1.length y51) (.slice x61 ds1.length y61)
        replace hT := hT.by' neL (u0 := .bool b61) (u1 := .slice x51 ns1.length y51) (u2 := .slice x61 ds1.length y61)
        replace g := Below.set3 g leS (.bool b61) (.slice x51 ns1.length y51) (.slice x61 ds1.length y61)
        replace g5 := g5.put' S.box (.bool b61) (.slice x51 ns1.length y51) (.slice x61 ds1.length y61)
        replace g6 := g6.put' S.box (.bool b61) (.slice x51 ns1.length y51) (.slice x61 ds1.length y61)
        replace S := S.put (c := b61) on od
        clear on od
        clear g3 g4
        generalize hA : (((wc.setCell ⟨wz.heap.size, 0, none⟩ (.bool b61)).setCell ⟨wz.heap.size, 1, none⟩ (.slice x51 ns1.length y51)).setCell ⟨wz.heap.size, 2, none⟩ (.slice x61 ds1.length y61)) = vx2 at *
        clear hA
        rw [rounds_succ]
        obtain ⟨hlt', m0, m1, m2, m3, m4, m5, m6, m7, m8⟩ := hT
        have hT := Three.mk hlt' m0 m1 m2 m3 m4 m5 m6 m7 m8
        obtain ⟨S0, S1, S2⟩ := S.cells
        go_upto_region 7 with fail
        go_cut [6, 7] from 13 to 32 (fun p e wx => ∃ (kt : Nat) (b : Bool) (x5 : Option Addr) (n5 y5 : Nat) (x6 : Option Addr) (n6 y6 : Nat) (err : Int), p = .pointer (some ⟨kt, 0, none⟩) ∧ e = .int .i64 err ∧ Box3 wx kt 24 (.bool b) (.slice x5 n5 y5) (.slice x6 n6 y6) ∧ Hid (OutV wx (sg b61 (val ns1) * val zd + sg dz (val zn) * val ds1) (val ds1 * val zd) b x5 n5 y5 x6 n6 y6 err) ∧ Below vx2.heap.size vx2 wx)
        case first =>
          have hcells : ∀ {w' : World}, Below vx2.heap.size vx2 w' → w'.cell? ⟨wz.heap.size, 0, none⟩ = some (.bool b61) ∧ w'.cell? ⟨wz.heap.size, 1, none⟩ = some (.slice x51 ns1.length y51) ∧ w'.cell? ⟨wz.heap.size, 2, none⟩ = some (.slice x61 ds1.length y61) ∧ w'.cell? ⟨Lb, 6, none⟩ = some (.bool dz) ∧ w'.cell? ⟨Lb, 7, none⟩ = some (.slice a5 zn.length c5) ∧ w'.cell? ⟨Lb, 8, none⟩ = some (.slice a6 zd.length c6) := fun hb => ⟨(S.below hb).k0, (S.below hb).k1, (S.below hb).k2, (hT.below hb).k6, (hT.below hb).k7, (hT.below hb).k8⟩
          have j1 : Rd vx2.drew.heap.size vx2.drew (.slice x51 ns1.length y51) ns1 := S.rn
          have j2 : Rd vx2.drew.heap.size vx2.drew (.slice x61 ds1.length y61) ds1 := S.rd
          have j3 : Rd vx2.drew.heap.size vx2.drew (.slice a5 zn.length c5) zn := g5
          have j4 : Rd vx2.drew.heap.size vx2.drew (.slice a6 zd.length c6) zd := g6
          have hn1 : ¬ vx2.heap.size = wz.heap.size := fun h => by have := S.lt; omega
          have hn2 : ¬ wz.heap.size = vx2.heap.size := fun h => by have := S.lt; omega
          have hn3 : ¬ vx2.heap.size = Lb := fun h => by have := hT.lt; omega
          have hn4 : ¬ Lb = vx2.heap.size := fun h => by have := hT.lt; omega
          have zI := below_alloc vx2.drew (.cells #[.bool false, .slice none 0 0, .slice none 0 0] 24)
          have RI := rvar_new vx2.drew
          have i1 := (j1.below zI).mono zI.size
          have i2 := (j2.below zI).mono zI.size
          have i3 := (j3.below zI).mono zI.size
          have i4 := (j4.below zI).mono zI.size
          go_region_held3 (fun w' => w'.cell? ⟨wz.heap.size, 0, none⟩ = some (.bool b61) ∧ w'.cell? ⟨wz.heap.size, 1, none⟩ = some (.slice x51 ns1.length y51) ∧ w'.cell? ⟨wz.heap.size, 2, none⟩ = some (.slice x61 ds1.length y61) ∧ w'.cell? ⟨Lb, 6, none⟩ = some (.bool dz) ∧ w'.cell? ⟨Lb, 7, none⟩ = some (.slice a5 zn.length c5) ∧ w'.cell? ⟨Lb, 8, none⟩ = some (.slice a6 zd.length c6))
            (first | (go_keep; done) | exact tw)
            ((go_at_call 21; refine (refTwo_rat (by first | exact j1 | exact i1) (by first | exact j2 | exact i2) (by first | exact j3 | exact i3) (by first | exact j4 | exact i4) HXR1 HPZ).mono ?_; intro e wb hm; obtain ⟨bb, b6, x5, n5, y5, x6, n6, y6, err, rfl, hform⟩ := hm.form; have HO := OutV.of hform; first | (have RT : RVar wb vx2.heap.size := RI.below bb; have bab : Below vx2.heap.size vx2 wb := (Below.alloc (⟨rfl, rfl, rfl, Nat.le_refl _, fun _ _ => rfl⟩ : Below vx2.heap.size vx2 vx2.drew) (Nat.le_refl _) _).trans (bb.mono zI.size); have q0 := RT.box.c0; have q1 := RT.box.c1; have q2 := RT.box.c2; have p0 := RT.box.f0; have p1 := RT.box.f1; have p2 := RT.box.f2; have tw := hcells bab) | (have bab : Below vx2.heap.size vx2 wb := ⟨bb.os, bb.tape, bb.output, bb.size, bb.block⟩; have tw := hcells bab)))
          · go_wp2_with fail
            go_meet
            exact ⟨wb.heap.size, b6, x5, n5, y5, x6, n6, y6, err, rfl, rfl, box3_new _ _ _ _ _, OutV.below HO (below_alloc _ _), bab.alloc bab.size _⟩
          · go_wp2_with fail
            go_meet
            exact ⟨vx2.heap.size, b6, x5, n5, y5, x6, n6, y6, err, rfl, rfl, RT.box.set _ _ _, OutV.put HO RT.box _ _ _, Below.set3 bab (Nat.le_refl _) _ _ _⟩
        case rest =>
        obtain ⟨kt, b62, x52, n5, y52, x62, n6, y62, err, rfl, rfl, TB, HO, bab⟩ := hcut
        clear S0 S1 S2 m0 m1 m2 m3 m4 m5 m6 m7 m8
        replace S := S.below bab
        replace R := R.below bab
        replace g := g.trans (bab.mono g.size)
        replace g5 := (g5.below bab).mono bab.size
        replace g6 := (g6.below bab).mono bab.size
        replace hT := hT.below bab
        rcases HO.out with ⟨rfl, rfl, rfl, rfl, rfl, rfl, rfl, rfl, hbig⟩ | ⟨rfl, ns2, ds2, rfl, rfl, on, od, hr, hv⟩
        · have HBG : Hid (Big _ _) := hbig
          clear hbig HO TB
          have q0 := R.box.c0
          have q1 := R.box.c1
          have q2 := R.box.c2
          have p0 := R.box.f0
          have p1 := R.box.f1
          have p2 := R.box.f2
          go_wp2
          have hR3 := R.box.set (.bool false) (.slice none 0 0) (.slice none 0 0)
          have r0 := hR3.c0
          have r1 := hR3.c1
          have r2 := hR3.c2
          refine bodyPost_ret (v := .tuple #[.agg #[.bool false, .slice none 0 0, .slice none 0 0], .int .i64 8]) (by simp [results, Tryz.results6, go_sem, r0, r1, r2]) rfl ?_
          exact ⟨false, [], [], 8, Or.inr (Or.inr ⟨HP.out, b61, ns1, ds1, HX1.out.1, HX1.out.2, Or.inr (Or.inl ⟨trivial, rfl, rfl, rfl, rfl, HBG.out⟩)⟩), Below.set3 g sr _ _ _, none, 0, none, 0, rfl, nil_rd _, nil_rd _⟩
        · have HX2 : Hid (RightP b62 ns2 ds2 ∧ _) := ⟨hr, hv⟩
          clear hr hv HO
          have HXR2 : Hid (RightP b62 ns2 ds2) := HX2.out.1
          have T0 := TB.c0
          have T1 := TB.c1
          have T2 := TB.c2
          have q0 := S.box.c0
          have q1 := S.box.c1
          have q2 := S.box.c2
          have p0 := S.box.f0
          have p1 := S.box.f1
          have p2 := S.box.f2
          have R9 := R.by' S neR (.bool b62) (.slice x52 ns2.length y52) (.slice x62 ds2.length y62)
          have S9 := S.put (c := b62) on od
          obtain ⟨S0, S1, S2⟩ := S9.cells
          go_wp2
          clear S0 S1 S2 R9 S9
          clear q0 q1 q2 p0 p1 p2 T0 T1 T2 TB
          replace R := R.by' S neR (.bool b62) (.slice x52 ns2.length y52) (.slice x62 ds2.length y62)
          replace hT := hT.by' neL (u0 := .bool b62) (u1 := .slice x52 ns2.length y52) (u2 := .slice x62 ds2.length y62)
          replace g := Below.set3 g leS (.bool b62) (.slice x52 ns2.length y52) (.slice x62 ds2.length y62)
          replace S := S.put (c := b62) on od
          clear on od
          clear g5 g6
          generalize hA : (((wc.setCell ⟨wz.heap.size, 0, none⟩ (.bool b62)).setCell ⟨wz.heap.size, 1, none⟩ (.slice x52 ns2.length y52)).setCell ⟨wz.heap.size, 2, none⟩ (.slice x62 ds2.length y62)) = vx3 at *
          clear hA
          rw [rounds_succ]
          obtain ⟨S0, S1, S2⟩ := S.cells
          have hres := S.result R (.bool b62) (.slice x52 ns2.length y52) (.slice x62 ds2.length y62)
          have q0 := R.box.c0
          have q1 := R.box.c1
          have q2 := R.box.c2
          have p0 := R.box.f0
          have p1 := R.box.f1
          have p2 := R.box.f2
          go_wp2
          have hR3 := R.box.set (.bool b62) (.slice x52 ns2.length y52) (.slice x62 ds2.length y62)
          have r0 := hR3.c0
          have r1 := hR3.c1
          have r2 := hR3.c2
          refine bodyPost_ret (v := .tuple #[.agg #[.bool b62, .slice x52 ns2.length y52, .slice x62 ds2.length y62], .int .i64 0]) (by simp [results, Tryz.results6, go_sem, r0, r1, r2]) rfl ?_
          exact ⟨b62, ns2, ds2, 0, Or.inr (Or.inr ⟨HP.out, b61, ns1, ds1, HX1.out.1, HX1.out.2, Or.inr (Or.inr ⟨trivial, rfl, HX2.out.1, HX2.out.2⟩)⟩), Below.set3 g sr _ _ _, x52, y52, x62, y62, rfl, hres.1, hres.2⟩
end
end Go.Proofs.YtonjbpnpknpbeaaGreatDoor

/- The document's Mul, of three. -/
namespace Go.Proofs.YtonjbpnpknpbeaaGreatDoor
set_option linter.unusedVariables false
set_option linter.unusedSimpArgs false
open Go.RowKit

section
variable {Lb : Nat} {w : World} {bx cy dz : Bool} {a1 a2 a3 a4 a5 a6 : Option Addr} {c1 c2 c3 c4 c5 c6 : Nat} {xn xd yn yd zn zd : List Int}
set_option maxRecDepth 100000 in
set_option maxHeartbeats 64000000 in
theorem refMul3 (hT : Three w Lb (.bool bx) (.slice a1 xn.length c1) (.slice a2 xd.length c2) (.bool cy) (.slice a3 yn.length c3) (.slice a4 yd.length c4) (.bool dz) (.slice a5 zn.length c5) (.slice a6 zd.length c6)) (h1 : Rd w.heap.size w (.slice a1 xn.length c1) xn) (h2 : Rd w.heap.size w (.slice a2 xd.length c2) xd) (h3 : Rd w.heap.size w (.slice a3 yn.length c3) yn) (h4 : Rd w.heap.size w (.slice a4 yd.length c4) yd) (h5 : Rd w.heap.size w (.slice a5 zn.length c5) zn) (h6 : Rd w.heap.size w (.slice a6 zd.length c6) zd) :
    Calls Tryz.prog 10 #[.slice (some ⟨Lb, 0, none⟩) 3 3] w fun e w' => ∃ b ns ds err, Hid (FoldSpec (RightP bx xn xd ∧ RightP cy yn yd ∧ RightP dz zn zd) false bx xn xd cy yn yd dz zn zd b ns ds err) ∧ RAns w b ns ds err e w' := by
  have R := rvar_new w
  have g := below_alloc w (.cells #[.bool false, .slice none 0 0, .slice none 0 0] 24)
  have sr : w.heap.size ≤ w.heap.size := Nat.le_refl _
  have g1 := (h1.below g).mono g.size
  have g2 := (h2.below g).mono g.size
  have g3 := (h3.below g).mono g.size
  have g4 := (h4.below g).mono g.size
  have g5 := (h5.below g).mono g.size
  have g6 := (h6.below g).mono g.size
  replace hT := hT.below g
  have hlt := hT.lt
  clear h1 h2 h3 h4 h5 h6
  go_enter Tryz.func10, Tryz.ntmps10
  go_wp2_with fail
  generalize hA : w.alloc (.cells #[.bool false, .slice none 0 0, .slice none 0 0] 24) = v at *
  clear hA
  refine (refAll3 hT g1 g2 g3 g4 g5 g6).mono ?_
  rintro e wa ⟨⟨r, rfl, hr⟩, ba⟩
  replace R := R.below ba
  replace g := g.trans (ba.mono g.size)
  replace g1 := (g1.below ba).mono ba.size
  replace g2 := (g2.below ba).mono ba.size
  replace g3 := (g3.below ba).mono ba.size
  replace g4 := (g4.below ba).mono ba.size
  replace g5 := (g5.below ba).mono ba.size
  replace g6 := (g6.below ba).mono ba.size
  replace hT := hT.below ba
  clear ba
  cases r with
  | false =>
    have HP : Hid (¬ (RightP bx xn xd ∧ RightP cy yn yd ∧ RightP dz zn zd)) := fun h => by have := hr.2 h; cases this
    clear hr
    have q0 := R.box.c0
    have q1 := R.box.c1
    have q2 := R.box.c2
    have p0 := R.box.f0
    have p1 := R.box.f1
    have p2 := R.box.f2
    go_wp2
    have hR3 := R.box.set (.bool false) (.slice none 0 0) (.slice none 0 0)
    have r0 := hR3.c0
    have r1 := hR3.c1
    have r2 := hR3.c2
    refine bodyPost_ret (v := .tuple #[.agg #[.bool false, .slice none 0 0, .slice none 0 0], .int .i64 22]) (by simp [results, Tryz.results10, go_sem, r0, r1, r2]) rfl ?_
    exact ⟨false, [], [], 22, Or.inl ⟨HP.out, rfl, rfl, rfl, rfl⟩, Below.set3 g sr _ _ _, none, 0, none, 0, rfl, nil_rd _, nil_rd _⟩
  | true =>
    have HP : Hid (RightP bx xn xd ∧ RightP cy yn yd ∧ RightP dz zn zd) := hr.1 rfl
    clear hr
    have HPX : Hid (RightP bx xn xd) := HP.out.1
    have HPY : Hid (RightP cy yn yd) := HP.out.2.1
    have HPZ : Hid (RightP dz zn zd) := HP.out.2.2
    go_wp2_with fail
    refine (refUnit_hid _).mono ?_
    rintro e wz ⟨b0, n0, d0, HZ, kz, z1, z2, z3, z4, rfl, on, od⟩
    replace R := R.below kz
    replace g := g.trans (kz.mono g.size)
    replace g1 := (g1.below kz).mono kz.size
    replace g2 := (g2.below kz).mono kz.size
    replace g3 := (g3.below kz).mono kz.size
    replace g4 := (g4.below kz).mono kz.size
    replace g5 := (g5.below kz).mono kz.size
    replace g6 := (g6.below kz).mono kz.size
    replace hT := hT.below kz
    clear kz
    have on0 := on.rd
    have od0 := od.rd
    clear on od
    have HZR : Hid (RightP b0 n0 d0) := HZ.out.1
    have ka := below_alloc wz (.cells #[.bool b0, .slice z1 n0.length z2, .slice z3 d0.length z4] 24)
    have S := nvar_new (b := b0) on0 od0
    have leS : w.heap.size ≤ wz.heap.size := g.size
    have neR : w.heap.size ≠ wz.heap.size := Nat.ne_of_lt R.lt
    have neL : Lb ≠ wz.heap.size := Nat.ne_of_lt hT.lt
    replace R := R.below ka
    replace g := g.trans (ka.mono g.size)
    replace g1 := (g1.below ka).mono ka.size
    replace g2 := (g2.below ka).mono ka.size
    replace g3 := (g3.below ka).mono ka.size
    replace g4 := (g4.below ka).mono ka.size
    replace g5 := (g5.below ka).mono ka.size
    replace g6 := (g6.below ka).mono ka.size
    replace hT := hT.below ka
    clear ka on0 od0
    go_wp2
    generalize hA : wz.alloc (.cells #[.bool b0, .slice z1 n0.length z2, .slice z3 d0.length z4] 24) = v0 at *
    clear hA
    refine wp_loop_rounds 4 ?_
    rw [rounds_succ]
    obtain ⟨hlt', m0, m1, m2, m3, m4, m5, m6, m7, m8⟩ := hT
    have hT := Three.mk hlt' m0 m1 m2 m3 m4 m5 m6 m7 m8
    obtain ⟨S0, S1, S2⟩ := S.cells
    go_upto_region 7 with fail
    go_cut [6, 7] from 13 to 32 (fun p e wx => ∃ (kt : Nat) (b : Bool) (x5 : Option Addr) (n5 y5 : Nat) (x6 : Option Addr) (n6 y6 : Nat) (err : Int), p = .pointer (some ⟨kt, 0, none⟩) ∧ e = .int .i64 err ∧ Box3 wx kt 24 (.bool b) (.slice x5 n5 y5) (.slice x6 n6 y6) ∧ Hid (OutV wx (sg b0 (val n0) * sg bx (val xn)) (val d0 * val xd) b x5 n5 y5 x6 n6 y6 err) ∧ Below v0.heap.size v0 wx)
    case first =>
      have hcells : ∀ {w' : World}, Below v0.heap.size v0 w' → w'.cell? ⟨wz.heap.size, 0, none⟩ = some (.bool b0) ∧ w'.cell? ⟨wz.heap.size, 1, none⟩ = some (.slice z1 n0.length z2) ∧ w'.cell? ⟨wz.heap.size, 2, none⟩ = some (.slice z3 d0.length z4) ∧ w'.cell? ⟨Lb, 0, none⟩ = some (.bool bx) ∧ w'.cell? ⟨Lb, 1, none⟩ = some (.slice a1 xn.length c1) ∧ w'.cell? ⟨Lb, 2, none⟩ = some (.slice a2 xd.length c2) := fun hb => ⟨(S.below hb).k0, (S.below hb).k1, (S.below hb).k2, (hT.below hb).k0, (hT.below hb).k1, (hT.below hb).k2⟩
      have j1 : Rd v0.drew.heap.size v0.drew (.slice z1 n0.length z2) n0 := S.rn
      have j2 : Rd v0.drew.heap.size v0.drew (.slice z3 d0.length z4) d0 := S.rd
      have j3 : Rd v0.drew.heap.size v0.drew (.slice a1 xn.length c1) xn := g1
      have j4 : Rd v0.drew.heap.size v0.drew (.slice a2 xd.length c2) xd := g2
      have hn1 : ¬ v0.heap.size = wz.heap.size := fun h => by have := S.lt; omega
      have hn2 : ¬ wz.heap.size = v0.heap.size := fun h => by have := S.lt; omega
      have hn3 : ¬ v0.heap.size = Lb := fun h => by have := hT.lt; omega
      have hn4 : ¬ Lb = v0.heap.size := fun h => by have := hT.lt; omega
      have zI := below_alloc v0.drew (.cells #[.bool false, .slice none 0 0, .slice none 0 0] 24)
      have RI := rvar_new v0.drew
      have i1 := (j1.below zI).mono zI.size
      have i2 := (j2.below zI).mono zI.size
      have i3 := (j3.below zI).mono zI.size
      have i4 := (j4.below zI).mono zI.size
      go_region_held3 (fun w' => w'.cell? ⟨wz.heap.size, 0, none⟩ = some (.bool b0) ∧ w'.cell? ⟨wz.heap.size, 1, none⟩ = some (.slice z1 n0.length z2) ∧ w'.cell? ⟨wz.heap.size, 2, none⟩ = some (.slice z3 d0.length z4) ∧ w'.cell? ⟨Lb, 0, none⟩ = some (.bool bx) ∧ w'.cell? ⟨Lb, 1, none⟩ = some (.slice a1 xn.length c1) ∧ w'.cell? ⟨Lb, 2, none⟩ = some (.slice a2 xd.length c2))
        (first | (go_keep; done) | exact tw)
        ((go_at_call 27; refine (refTimes_rat (by first | exact j1 | exact i1) (by first | exact j2 | exact i2) (by first | exact j3 | exact i3) (by first | exact j4 | exact i4) HZR HPX).mono ?_; intro e wb hm; obtain ⟨bb, b6, x5, n5, y5, x6, n6, y6, err, rfl, hform⟩ := hm.form; have HO := OutV.of hform; first | (have RT : RVar wb v0.heap.size := RI.below bb; have bab : Below v0.heap.size v0 wb := (Below.alloc (⟨rfl, rfl, rfl, Nat.le_refl _, fun _ _ => rfl⟩ : Below v0.heap.size v0 v0.drew) (Nat.le_refl _) _).trans (bb.mono zI.size); have q0 := RT.box.c0; have q1 := RT.box.c1; have q2 := RT.box.c2; have p0 := RT.box.f0; have p1 := RT.box.f1; have p2 := RT.box.f2; have tw := hcells bab) | (have bab : Below v0.heap.size v0 wb := ⟨bb.os, bb.tape, bb.output, bb.size, bb.block⟩; have tw := hcells bab)))
      · go_wp2_with fail
        go_meet
        exact ⟨wb.heap.size, b6, x5, n5, y5, x6, n6, y6, err, rfl, rfl, box3_new _ _ _ _ _, OutV.below HO (below_alloc _ _), bab.alloc bab.size _⟩
      · go_wp2_with fail
        go_meet
        exact ⟨v0.heap.size, b6, x5, n5, y5, x6, n6, y6, err, rfl, rfl, RT.box.set _ _ _, OutV.put HO RT.box _ _ _, Below.set3 bab (Nat.le_refl _) _ _ _⟩
    case rest =>
    obtain ⟨kt, b60, x50, n5, y50, x60, n6, y60, err, rfl, rfl, TB, HO, bab⟩ := hcut
    clear S0 S1 S2 m0 m1 m2 m3 m4 m5 m6 m7 m8
    replace S := S.below bab
    replace R := R.below bab
    replace g := g.trans (bab.mono g.size)
    replace g1 := (g1.below bab).mono bab.size
    replace g2 := (g2.below bab).mono bab.size
    replace g3 := (g3.below bab).mono bab.size
    replace g4 := (g4.below bab).mono bab.size
    replace g5 := (g5.below bab).mono bab.size
    replace g6 := (g6.below bab).mono bab.size
    replace hT := hT.below bab
    rcases HO.out with ⟨rfl, rfl, rfl, rfl, rfl, rfl, rfl, rfl, hbig⟩ | ⟨rfl, ns0, ds0, rfl, rfl, on, od, hr, hv⟩
    · exact absurd hbig (not_big HPX.out (by rw [HZ.out.2.1, HZ.out.2.2]; simp [Int.mul_comm, Int.mul_left_comm]) (Int.mul_pos (right_pos HZR.out).1 (right_pos HPX.out).1))
    · obtain ⟨h7, h8, h9⟩ := right_is HPX.out (by rw [HZ.out.2.1, HZ.out.2.2]; simp [Int.mul_comm, Int.mul_left_comm]) (Int.mul_pos (right_pos HZR.out).1 (right_pos HPX.out).1) hr hv
      replace h7 := h7.symm
      replace h8 := h8.symm
      replace h9 := h9.symm
      subst h7 h8 h9
      clear hr hv HO
      have T0 := TB.c0
      have T1 := TB.c1
      have T2 := TB.c2
      have q0 := S.box.c0
      have q1 := S.box.c1
      have q2 := S.box.c2
      have p0 := S.box.f0
      have p1 := S.box.f1
      have p2 := S.box.f2
      go_wp2
      clear q0 q1 q2 p0 p1 p2 T0 T1 T2 TB
      replace R := R.by' S neR (.bool bx) (.slice x50 xn.length y50) (.slice x60 xd.length y60)
      replace hT := hT.by' neL (u0 := .bool bx) (u1 := .slice x50 xn.length y50) (u2 := .slice x60 xd.length y60)
      replace g := Below.set3 g leS (.bool bx) (.slice x50 xn.length y50) (.slice x60 xd.length y60)
      replace g3 := g3.put' S.box (.bool bx) (.slice x50 xn.length y50) (.slice x60 xd.length y60)
      replace g4 := g4.put' S.box (.bool bx) (.slice x50 xn.length y50) (.slice x60 xd.length y60)
      replace g5 := g5.put' S.box (.bool bx) (.slice x50 xn.length y50) (.slice x60 xd.length y60)
      replace g6 := g6.put' S.box (.bool bx) (.slice x50 xn.length y50) (.slice x60 xd.length y60)
      replace S := S.put (c := bx) on od
      clear on od
      clear g1 g2
      generalize hA : (((wc.setCell ⟨wz.heap.size, 0, none⟩ (.bool bx)).setCell ⟨wz.heap.size, 1, none⟩ (.slice x50 xn.length y50)).setCell ⟨wz.heap.size, 2, none⟩ (.slice x60 xd.length y60)) = vx1 at *
      clear hA
      rw [rounds_succ]
      obtain ⟨hlt', m0, m1, m2, m3, m4, m5, m6, m7, m8⟩ := hT
      have hT := Three.mk hlt' m0 m1 m2 m3 m4 m5 m6 m7 m8
      obtain ⟨S0, S1, S2⟩ := S.cells
      go_upto_region 7 with fail
      go_cut [6, 7] from 13 to 32 (fun p e wx => ∃ (kt : Nat) (b : Bool) (x5 : Option Addr) (n5 y5 : Nat) (x6 : Option Addr) (n6 y6 : Nat) (err : Int), p = .pointer (some ⟨kt, 0, none⟩) ∧ e = .int .i64 err ∧ Box3 wx kt 24 (.bool b) (.slice x5 n5 y5) (.slice x6 n6 y6) ∧ Hid (OutV wx (sg bx (val xn) * sg cy (val yn)) (val xd * val yd) b x5 n5 y5 x6 n6 y6 err) ∧ Below vx1.heap.size vx1 wx)
      case first =>
        have hcells : ∀ {w' : World}, Below vx1.heap.size vx1 w' → w'.cell? ⟨wz.heap.size, 0, none⟩ = some (.bool bx) ∧ w'.cell? ⟨wz.heap.size, 1, none⟩ = some (.slice x50 xn.length y50) ∧ w'.cell? ⟨wz.heap.size, 2, none⟩ = some (.slice x60 xd.length y60) ∧ w'.cell? ⟨Lb, 3, none⟩ = some (.bool cy) ∧ w'.cell? ⟨Lb, 4, none⟩ = some (.slice a3 yn.length c3) ∧ w'.cell? ⟨Lb, 5, none⟩ = some (.slice a4 yd.length c4) := fun hb => ⟨(S.below hb).k0, (S.below hb).k1, (S.below hb).k2, (hT.below hb).k3, (hT.below hb).k4, (hT.below hb).k5⟩
        have j1 : Rd vx1.drew.heap.size vx1.drew (.slice x50 xn.length y50) xn := S.rn
        have j2 : Rd vx1.drew.heap.size vx1.drew (.slice x60 xd.length y60) xd := S.rd
        have j3 : Rd vx1.drew.heap.size vx1.drew (.slice a3 yn.length c3) yn := g3
        have j4 : Rd vx1.drew.heap.size vx1.drew (.slice a4 yd.length c4) yd := g4
        have hn1 : ¬ vx1.heap.size = wz.heap.size := fun h => by have := S.lt; omega
        have hn2 : ¬ wz.heap.size = vx1.heap.size := fun h => by have := S.lt; omega
        have hn3 : ¬ vx1.heap.size = Lb := fun h => by have := hT.lt; omega
        have hn4 : ¬ Lb = vx1.heap.size := fun h => by have := hT.lt; omega
        have zI := below_alloc vx1.drew (.cells #[.bool false, .slice none 0 0, .slice none 0 0] 24)
        have RI := rvar_new vx1.drew
        have i1 := (j1.below zI).mono zI.size
        have i2 := (j2.below zI).mono zI.size
        have i3 := (j3.below zI).mono zI.size
        have i4 := (j4.below zI).mono zI.size
        go_region_held3 (fun w' => w'.cell? ⟨wz.heap.size, 0, none⟩ = some (.bool bx) ∧ w'.cell? ⟨wz.heap.size, 1, none⟩ = some (.slice x50 xn.length y50) ∧ w'.cell? ⟨wz.heap.size, 2, none⟩ = some (.slice x60 xd.length y60) ∧ w'.cell? ⟨Lb, 3, none⟩ = some (.bool cy) ∧ w'.cell? ⟨Lb, 4, none⟩ = some (.slice a3 yn.length c3) ∧ w'.cell? ⟨Lb, 5, none⟩ = some (.slice a4 yd.length c4))
          (first | (go_keep; done) | exact tw)
          ((go_at_call 27; refine (refTimes_rat (by first | exact j1 | exact i1) (by first | exact j2 | exact i2) (by first | exact j3 | exact i3) (by first | exact j4 | exact i4) HPX HPY).mono ?_; intro e wb hm; obtain ⟨bb, b6, x5, n5, y5, x6, n6, y6, err, rfl, hform⟩ := hm.form; have HO := OutV.of hform; first | (have RT : RVar wb vx1.heap.size := RI.below bb; have bab : Below vx1.heap.size vx1 wb := (Below.alloc (⟨rfl, rfl, rfl, Nat.le_refl _, fun _ _ => rfl⟩ : Below vx1.heap.size vx1 vx1.drew) (Nat.le_refl _) _).trans (bb.mono zI.size); have q0 := RT.box.c0; have q1 := RT.box.c1; have q2 := RT.box.c2; have p0 := RT.box.f0; have p1 := RT.box.f1; have p2 := RT.box.f2; have tw := hcells bab) | (have bab : Below vx1.heap.size vx1 wb := ⟨bb.os, bb.tape, bb.output, bb.size, bb.block⟩; have tw := hcells bab)))
        · go_wp2_with fail
          go_meet
          exact ⟨wb.heap.size, b6, x5, n5, y5, x6, n6, y6, err, rfl, rfl, box3_new _ _ _ _ _, OutV.below HO (below_alloc _ _), bab.alloc bab.size _⟩
        · go_wp2_with fail
          go_meet
          exact ⟨vx1.heap.size, b6, x5, n5, y5, x6, n6, y6, err, rfl, rfl, RT.box.set _ _ _, OutV.put HO RT.box _ _ _, Below.set3 bab (Nat.le_refl _) _ _ _⟩
      case rest =>
      obtain ⟨kt, b61, x51, n5, y51, x61, n6, y61, err, rfl, rfl, TB, HO, bab⟩ := hcut
      clear S0 S1 S2 m0 m1 m2 m3 m4 m5 m6 m7 m8
      replace S := S.below bab
      replace R := R.below bab
      replace g := g.trans (bab.mono g.size)
      replace g3 := (g3.below bab).mono bab.size
      replace g4 := (g4.below bab).mono bab.size
      replace g5 := (g5.below bab).mono bab.size
      replace g6 := (g6.below bab).mono bab.size
      replace hT := hT.below bab
      rcases HO.out with ⟨rfl, rfl, rfl, rfl, rfl, rfl, rfl, rfl, hbig⟩ | ⟨rfl, ns1, ds1, rfl, rfl, on, od, hr, hv⟩
      · have HBG : Hid (Big _ _) := hbig
        clear hbig HO TB
        have q0 := R.box.c0
        have q1 := R.box.c1
        have q2 := R.box.c2
        have p0 := R.box.f0
        have p1 := R.box.f1
        have p2 := R.box.f2
        go_wp2
        have hR3 := R.box.set (.bool false) (.slice none 0 0) (.slice none 0 0)
        have r0 := hR3.c0
        have r1 := hR3.c1
        have r2 := hR3.c2
        refine bodyPost_ret (v := .tuple #[.agg #[.bool false, .slice none 0 0, .slice none 0 0], .int .i64 8]) (by simp [results, Tryz.results10, go_sem, r0, r1, r2]) rfl ?_
        exact ⟨false, [], [], 8, Or.inr (Or.inl ⟨HP.out, HBG.out, rfl, rfl, rfl, rfl⟩), Below.set3 g sr _ _ _, none, 0, none, 0, rfl, nil_rd _, nil_rd _⟩
      · have HX1 : Hid (RightP b61 ns1 ds1 ∧ _) := ⟨hr, hv⟩
        clear hr hv HO
        have HXR1 : Hid (RightP b61 ns1 ds1) := HX1.out.1
        have T0 := TB.c0
        have T1 := TB.c1
        have T2 := TB.c2
        have q0 := S.box.c0
        have q1 := S.box.c1
        have q2 := S.box.c2
        have p0 := S.box.f0
        have p1 := S.box.f1
        have p2 := S.box.f2
        go_wp2
        clear q0 q1 q2 p0 p1 p2 T0 T1 T2 TB
        replace R := R.by' S neR (.bool b61) (.slice x51 ns1.length y51) (.slice x61 ds1.length y61)
        replace hT := hT.by' neL (u0 := .bool b61) (u1 := .slice x51 ns1.length y51) (u2 := .slice x61 ds1.length y61)
        replace g := Below.set3 g leS (.bool b61) (.slice x51 ns1.length y51) (.slice x61 ds1.length y61)
        replace g5 := g5.put' S.box (.bool b61) (.slice x51 ns1.length y51) (.slice x61 ds1.length y61)
        replace g6 := g6.put' S.box (.bool b61) (.slice x51 ns1.length y51) (.slice x61 ds1.length y61)
        replace S := S.put (c := b61) on od
        clear on od
        clear g3 g4
        generalize hA : (((wc.setCell ⟨wz.heap.size, 0, none⟩ (.bool b61)).setCell ⟨wz.heap.size, 1, none⟩ (.slice x51 ns1.length y51)).setCell ⟨wz.heap.size, 2, none⟩ (.slice x61 ds1.length y61)) = vx2 at *
        clear hA
        rw [rounds_succ]
        obtain ⟨hlt', m0, m1, m2, m3, m4, m5, m6, m7, m8⟩ := hT
        have hT := Three.mk hlt' m0 m1 m2 m3 m4 m5 m6 m7 m8
        obtain ⟨S0, S1, S2⟩ := S.cells
        go_upto_region 7 with fail
        go_cut [6, 7] from 13 to 32 (fun p e wx => ∃ (kt : Nat) (b : Bool) (x5 : Option Addr) (n5 y5 : Nat) (x6 : Option Addr) (n6 y6 : Nat) (err : Int), p = .pointer (some ⟨kt, 0, none⟩) ∧ e = .int .i64 err ∧ Box3 wx kt 24 (.bool b) (.slice x5 n5 y5) (.slice x6 n6 y6) ∧ Hid (OutV wx (sg b61 (val ns1) * sg dz (val zn)) (val ds1 * val zd) b x5 n5 y5 x6 n6 y6 err) ∧ Below vx2.heap.size vx2 wx)
        case first =>
          have hcells : ∀ {w' : World}, Below vx2.heap.size vx2 w' → w'.cell? ⟨wz.heap.size, 0, none⟩ = some (.bool b61) ∧ w'.cell? ⟨wz.heap.size, 1, none⟩ = some (.slice x51 ns1.length y51) ∧ w'.cell? ⟨wz.heap.size, 2, none⟩ = some (.slice x61 ds1.length y61) ∧ w'.cell? ⟨Lb, 6, none⟩ = some (.bool dz) ∧ w'.cell? ⟨Lb, 7, none⟩ = some (.slice a5 zn.length c5) ∧ w'.cell? ⟨Lb, 8, none⟩ = some (.slice a6 zd.length c6) := fun hb => ⟨(S.below hb).k0, (S.below hb).k1, (S.below hb).k2, (hT.below hb).k6, (hT.below hb).k7, (hT.below hb).k8⟩
          have j1 : Rd vx2.drew.heap.size vx2.drew (.slice x51 ns1.length y51) ns1 := S.rn
          have j2 : Rd vx2.drew.heap.size vx2.drew (.slice x61 ds1.length y61) ds1 := S.rd
          have j3 : Rd vx2.drew.heap.size vx2.drew (.slice a5 zn.length c5) zn := g5
          have j4 : Rd vx2.drew.heap.size vx2.drew (.slice a6 zd.length c6) zd := g6
          have hn1 : ¬ vx2.heap.size = wz.heap.size := fun h => by have := S.lt; omega
          have hn2 : ¬ wz.heap.size = vx2.heap.size := fun h => by have := S.lt; omega
          have hn3 : ¬ vx2.heap.size = Lb := fun h => by have := hT.lt; omega
          have hn4 : ¬ Lb = vx2.heap.size := fun h => by have := hT.lt; omega
          have zI := below_alloc vx2.drew (.cells #[.bool false, .slice none 0 0, .slice none 0 0] 24)
          have RI := rvar_new vx2.drew
          have i1 := (j1.below zI).mono zI.size
          have i2 := (j2.below zI).mono zI.size
          have i3 := (j3.below zI).mono zI.size
          have i4 := (j4.below zI).mono zI.size
          go_region_held3 (fun w' => w'.cell? ⟨wz.heap.size, 0, none⟩ = some (.bool b61) ∧ w'.cell? ⟨wz.heap.size, 1, none⟩ = some (.slice x51 ns1.length y51) ∧ w'.cell? ⟨wz.heap.size, 2, none⟩ = some (.slice x61 ds1.length y61) ∧ w'.cell? ⟨Lb, 6, none⟩ = some (.bool dz) ∧ w'.cell? ⟨Lb, 7, none⟩ = some (.slice a5 zn.length c5) ∧ w'.cell? ⟨Lb, 8, none⟩ = some (.slice a6 zd.length c6))
            (first | (go_keep; done) | exact tw)
            ((go_at_call 27; refine (refTimes_rat (by first | exact j1 | exact i1) (by first | exact j2 | exact i2) (by first | exact j3 | exact i3) (by first | exact j4 | exact i4) HXR1 HPZ).mono ?_; intro e wb hm; obtain ⟨bb, b6, x5, n5, y5, x6, n6, y6, err, rfl, hform⟩ := hm.form; have HO := OutV.of hform; first | (have RT : RVar wb vx2.heap.size := RI.below bb; have bab : Below vx2.heap.size vx2 wb := (Below.alloc (⟨rfl, rfl, rfl, Nat.le_refl _, fun _ _ => rfl⟩ : Below vx2.heap.size vx2 vx2.drew) (Nat.le_refl _) _).trans (bb.mono zI.size); have q0 := RT.box.c0; have q1 := RT.box.c1; have q2 := RT.box.c2; have p0 := RT.box.f0; have p1 := RT.box.f1; have p2 := RT.box.f2; have tw := hcells bab) | (have bab : Below vx2.heap.size vx2 wb := ⟨bb.os, bb.tape, bb.output, bb.size, bb.block⟩; have tw := hcells bab)))
          · go_wp2_with fail
            go_meet
            exact ⟨wb.heap.size, b6, x5, n5, y5, x6, n6, y6, err, rfl, rfl, box3_new _ _ _ _ _, OutV.below HO (below_alloc _ _), bab.alloc bab.size _⟩
          · go_wp2_with fail
            go_meet
            exact ⟨vx2.heap.size, b6, x5, n5, y5, x6, n6, y6, err, rfl, rfl, RT.box.set _ _ _, OutV.put HO RT.box _ _ _, Below.set3 bab (Nat.le_refl _) _ _ _⟩
        case rest =>
        obtain ⟨kt, b62, x52, n5, y52, x62, n6, y62, err, rfl, rfl, TB, HO, bab⟩ := hcut
        clear S0 S1 S2 m0 m1 m2 m3 m4 m5 m6 m7 m8
        replace S := S.below bab
        replace R := R.below bab
        replace g := g.trans (bab.mono g.size)
        replace g5 := (g5.below bab).mono bab.size
        replace g6 := (g6.below bab).mono bab.size
        replace hT := hT.below bab
        rcases HO.out with ⟨rfl, rfl, rfl, rfl, rfl, rfl, rfl, rfl, hbig⟩ | ⟨rfl, ns2, ds2, rfl, rfl, on, od, hr, hv⟩
        · have HBG : Hid (Big _ _) := hbig
          clear hbig HO TB
          have q0 := R.box.c0
          have q1 := R.box.c1
          have q2 := R.box.c2
          have p0 := R.box.f0
          have p1 := R.box.f1
          have p2 := R.box.f2
          go_wp2
          have hR3 := R.box.set (.bool false) (.slice none 0 0) (.slice none 0 0)
          have r0 := hR3.c0
          have r1 := hR3.c1
          have r2 := hR3.c2
          refine bodyPost_ret (v := .tuple #[.agg #[.bool false, .slice none 0 0, .slice none 0 0], .int .i64 8]) (by simp [results, Tryz.results10, go_sem, r0, r1, r2]) rfl ?_
          exact ⟨false, [], [], 8, Or.inr (Or.inr ⟨HP.out, b61, ns1, ds1, HX1.out.1, HX1.out.2, Or.inr (Or.inl ⟨trivial, rfl, rfl, rfl, rfl, HBG.out⟩)⟩), Below.set3 g sr _ _ _, none, 0, none, 0, rfl, nil_rd _, nil_rd _⟩
        · have HX2 : Hid (RightP b62 ns2 ds2 ∧ _) := ⟨hr, hv⟩
          clear hr hv HO
          have HXR2 : Hid (RightP b62 ns2 ds2) := HX2.out.1
          have T0 := TB.c0
          have T1 := TB.c1
          have T2 := TB.c2
          have q0 := S.box.c0
          have q1 := S.box.c1
          have q2 := S.box.c2
          have p0 := S.box.f0
          have p1 := S.box.f1
          have p2 := S.box.f2
          have R9 := R.by' S neR (.bool b62) (.slice x52 ns2.length y52) (.slice x62 ds2.length y62)
          have S9 := S.put (c := b62) on od
          obtain ⟨S0, S1, S2⟩ := S9.cells
          go_wp2
          clear S0 S1 S2 R9 S9
          clear q0 q1 q2 p0 p1 p2 T0 T1 T2 TB
          replace R := R.by' S neR (.bool b62) (.slice x52 ns2.length y52) (.slice x62 ds2.length y62)
          replace hT := hT.by' neL (u0 := .bool b62) (u1 := .slice x52 ns2.length y52) (u2 := .slice x62 ds2.length y62)
          replace g := Below.set3 g leS (.bool b62) (.slice x52 ns2.length y52) (.slice x62 ds2.length y62)
          replace S := S.put (c := b62) on od
          clear on od
          clear g5 g6
          generalize hA : (((wc.setCell ⟨wz.heap.size, 0, none⟩ (.bool b62)).setCell ⟨wz.heap.size, 1, none⟩ (.slice x52 ns2.length y52)).setCell ⟨wz.heap.size, 2, none⟩ (.slice x62 ds2.length y62)) = vx3 at *
          clear hA
          rw [rounds_succ]
          obtain ⟨S0, S1, S2⟩ := S.cells
          have hres := S.result R (.bool b62) (.slice x52 ns2.length y52) (.slice x62 ds2.length y62)
          have q0 := R.box.c0
          have q1 := R.box.c1
          have q2 := R.box.c2
          have p0 := R.box.f0
          have p1 := R.box.f1
          have p2 := R.box.f2
          go_wp2
          have hR3 := R.box.set (.bool b62) (.slice x52 ns2.length y52) (.slice x62 ds2.length y62)
          have r0 := hR3.c0
          have r1 := hR3.c1
          have r2 := hR3.c2
          refine bodyPost_ret (v := .tuple #[.agg #[.bool b62, .slice x52 ns2.length y52, .slice x62 ds2.length y62], .int .i64 0]) (by simp [results, Tryz.results10, go_sem, r0, r1, r2]) rfl ?_
          exact ⟨b62, ns2, ds2, 0, Or.inr (Or.inr ⟨HP.out, b61, ns1, ds1, HX1.out.1, HX1.out.2, Or.inr (Or.inr ⟨trivial, rfl, HX2.out.1, HX2.out.2⟩)⟩), Below.set3 g sr _ _ _, x52, y52, x62, y62, rfl, hres.1, hres.2⟩
end
end Go.Proofs.YtonjbpnpknpbeaaGreatDoor
