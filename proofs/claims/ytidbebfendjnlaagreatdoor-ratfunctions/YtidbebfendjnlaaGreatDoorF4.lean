/- What a residue, a power and a count answer, told without a world: two such answers are one. -/
import Derived.Test.YtidbebfendjnlaaGreatDoorF3
import Derived.Test.YtidbebfendjnlaaGreatDoorF2
import Derived.Deep.Cut
import Derived.Deep.CutRange
import Derived.Deep.RegionHeld3
import Derived.Test.YtidbebfendjnlaaGreatDoorJ5
namespace Go.Proofs.YtidbebfendjnlaaGreatDoor
set_option linter.unusedVariables false
set_option linter.unusedSimpArgs false
open Go.RowKit

/-- What a residue answers. -/
def ResSpec (P : Prop) (bx : Bool) (xn xd : List Int) (cy : Bool) (yn yd : List Int) (b : Bool) (ns ds : List Int) (err : Int) : Prop :=
  (¬ P ∧ err = 22 ∧ b = false ∧ ns = [] ∧ ds = []) ∨
  (P ∧ xn.length = 0 ∧ err = 0 ∧ b = cy ∧ ns = yn ∧ ds = yd) ∨
  (P ∧ 0 < xn.length ∧ ResBig (sg cy (val yn) * sg bx (val xd)) (val yd * val xn) (sg bx (val xn)) (val xd) (sg cy (val yn)) (val yd) ∧ err = 8 ∧ b = false ∧ ns = [] ∧ ds = []) ∨
  (P ∧ 0 < xn.length ∧ ¬ ResBig (sg cy (val yn) * sg bx (val xd)) (val yd * val xn) (sg bx (val xn)) (val xd) (sg cy (val yn)) (val yd) ∧ err = 0 ∧ RightP b ns ds ∧ sg b (val ns) * (val yd * val xd) = (sg cy (val yn) * val xd + -(sg bx (val xn) * ((sg cy (val yn) * sg bx (val xd)) / (val yd * val xn))) * val yd) * val ds)
theorem ResSpec.unique {P : Prop} {bx cy : Bool} {xn xd yn yd : List Int} {b c : Bool} {ns ds ms es : List Int} {e f : Int} (hD : P → 0 < val yd * val xd) (h : ResSpec P bx xn xd cy yn yd b ns ds e) (k : ResSpec P bx xn xd cy yn yd c ms es f) : c = b ∧ ms = ns ∧ es = ds ∧ f = e := by
  rcases h with ⟨hp, rfl, rfl, rfl, rfl⟩ | ⟨hp, hc, rfl, rfl, rfl, rfl⟩ | ⟨hp, hc, h1, rfl, rfl, rfl, rfl⟩ | ⟨hp, hc, h1, rfl, hr, hv⟩ <;> rcases k with ⟨kp, rfl, rfl, rfl, rfl⟩ | ⟨kp, kc, rfl, rfl, rfl, rfl⟩ | ⟨kp, kc, k1, rfl, rfl, rfl, rfl⟩ | ⟨kp, kc, k1, rfl, kr, kv⟩
  all_goals first | exact ⟨rfl, rfl, rfl, rfl⟩ | exact absurd kp hp | exact absurd hp kp | exact absurd k1 h1 | exact absurd h1 k1 | (exfalso; omega) | (obtain ⟨rfl, rfl, rfl⟩ := right_is hr hv (hD hp) kr kv; exact ⟨rfl, rfl, rfl, rfl⟩)
theorem ResGives.spec {w w' : World} {P : Prop} {bx cy : Bool} {xn xd yn yd : List Int} {e : Ending} (h : ResGives w P bx xn xd cy yn yd e w') : ∃ b ns ds err, Hid (ResSpec P bx xn xd cy yn yd b ns ds err) ∧ RAns w b ns ds err e w' := by
  obtain ⟨hb, b, x1, n, y1, x2, m, y2, err, rfl, hO⟩ := h
  rcases hO.out with ⟨hp, rfl, rfl, rfl, rfl, rfl, rfl, rfl, rfl⟩ | ⟨hp, hx, rfl, rfl, rfl, rfl, on, od⟩ | ⟨hp, hx, rfl, rfl, rfl, rfl, rfl, rfl, rfl, rfl, hbig⟩ | ⟨hp, hx, rfl, hbig, ns, ds, rfl, rfl, on, od, hr, hv⟩
  · exact ⟨false, [], [], 22, Or.inl ⟨hp, rfl, rfl, rfl, rfl⟩, hb, none, 0, none, 0, rfl, nil_rd _, nil_rd _⟩
  · exact ⟨b, yn, yd, 0, Or.inr (Or.inl ⟨hp, hx, rfl, rfl, rfl, rfl⟩), hb, x1, y1, x2, y2, rfl, on.rd, od.rd⟩
  · exact ⟨false, [], [], 8, Or.inr (Or.inr (Or.inl ⟨hp, hx, hbig, rfl, rfl, rfl, rfl⟩)), hb, none, 0, none, 0, rfl, nil_rd _, nil_rd _⟩
  · exact ⟨b, ns, ds, 0, Or.inr (Or.inr (Or.inr ⟨hp, hx, hbig, rfl, hr, hv⟩)), hb, x1, y1, x2, y2, rfl, on.rd, od.rd⟩
theorem ResGives.same {w w' : World} {P : Prop} {bx cy : Bool} {xn xd yn yd : List Int} {e : Ending} {b : Bool} {ns ds : List Int} {err : Int} (hD : P → 0 < val yd * val xd) (HS : Hid (ResSpec P bx xn xd cy yn yd b ns ds err)) (h : ResGives w P bx xn xd cy yn yd e w') : RAns w b ns ds err e w' := by
  obtain ⟨c, ms, es, f, HK, hr⟩ := h.spec
  obtain ⟨rfl, rfl, rfl, rfl⟩ := ResSpec.unique hD HS.out HK.out
  exact hr

/-- What a power answers. -/
def PowSpec (P : Prop) (bx : Bool) (xn xd : List Int) (cy : Bool) (yn yd : List Int) (b : Bool) (ns ds : List Int) (err : Int) : Prop :=
  (¬ P ∧ err = 22 ∧ b = false ∧ ns = [] ∧ ds = []) ∨
  (P ∧ (¬ yd = [1] ∨ (yd = [1] ∧ 0 < yn.length ∧ xn.length = 0 ∧ cy = true)) ∧ err = 3 ∧ b = false ∧ ns = [] ∧ ds = []) ∨
  (P ∧ yd = [1] ∧ 0 < yn.length ∧ ¬ (xn.length = 0 ∧ cy = true) ∧ (pw 32 ≤ pnum cy xn xd ^ (val yn).toNat ∨ pw 32 ≤ pden cy xn xd ^ (val yn).toNat) ∧ err = 8 ∧ b = false ∧ ns = [] ∧ ds = []) ∨
  (P ∧ yd = [1] ∧ ¬ (0 < yn.length ∧ xn.length = 0 ∧ cy = true) ∧ pnum cy xn xd ^ (val yn).toNat < pw 32 ∧ pden cy xn xd ^ (val yn).toNat < pw 32 ∧ err = 0 ∧ RightP b ns ds ∧ sg b (val ns) = sg bx (pnum cy xn xd) ^ (val yn).toNat ∧ val ds = pden cy xn xd ^ (val yn).toNat)
theorem PowSpec.unique {P : Prop} {bx cy : Bool} {xn xd yn yd : List Int} {b c : Bool} {ns ds ms es : List Int} {e f : Int} (h : PowSpec P bx xn xd cy yn yd b ns ds e) (k : PowSpec P bx xn xd cy yn yd c ms es f) : c = b ∧ ms = ns ∧ es = ds ∧ f = e := by
  rcases h with ⟨hp, rfl, rfl, rfl, rfl⟩ | ⟨hp, hc, rfl, rfl, rfl, rfl⟩ | ⟨hp, h0, h1, h2, hbig, rfl, rfl, rfl, rfl⟩ | ⟨hp, h0, h1, hf1, hf2, rfl, hr, hv, hd⟩
  · rcases k with ⟨kp, rfl, rfl, rfl, rfl⟩ | ⟨kp, _⟩ | ⟨kp, _⟩ | ⟨kp, _⟩
    · exact ⟨rfl, rfl, rfl, rfl⟩
    all_goals exact absurd kp hp
  · rcases k with ⟨kp, _⟩ | ⟨kp, kc, rfl, rfl, rfl, rfl⟩ | ⟨kp, k0, k1, k2, _⟩ | ⟨kp, k0, k1, _⟩
    · exact absurd hp kp
    · exact ⟨rfl, rfl, rfl, rfl⟩
    · rcases hc with hc | ⟨_, _, hc⟩
      · exact absurd k0 hc
      · exact absurd hc k2
    · rcases hc with hc | ⟨_, hc⟩
      · exact absurd k0 hc
      · exact absurd hc k1
  · rcases k with ⟨kp, _⟩ | ⟨kp, kc, _⟩ | ⟨kp, k0, k1, k2, _, rfl, rfl, rfl, rfl⟩ | ⟨kp, k0, k1, kf1, kf2, _⟩
    · exact absurd hp kp
    · rcases kc with kc | ⟨_, _, kc⟩
      · exact absurd h0 kc
      · exact absurd kc h2
    · exact ⟨rfl, rfl, rfl, rfl⟩
    · exfalso; omega
  · rcases k with ⟨kp, _⟩ | ⟨kp, kc, _⟩ | ⟨kp, k0, k1, k2, kbig, _⟩ | ⟨kp, k0, k1, kf1, kf2, rfl, kr, kv, kd⟩
    · exact absurd hp kp
    · rcases kc with kc | ⟨_, kc⟩
      · exact absurd h0 kc
      · exact absurd kc h1
    · exfalso; omega
    · have hD := (right_pos hr).1
      rw [hd] at hD
      obtain ⟨rfl, rfl, rfl⟩ := right_is (N := sg bx (pnum cy xn xd) ^ (val yn).toNat) (D := pden cy xn xd ^ (val yn).toNat) hr (by rw [hv, hd]) hD kr (by rw [kv, kd])
      exact ⟨rfl, rfl, rfl, rfl⟩
theorem PowsGive.spec {w w' : World} {P : Prop} {bx cy : Bool} {xn xd yn yd : List Int} {e : Ending} (h : PowsGive w P bx xn xd cy yn yd e w') : ∃ b ns ds err, Hid (PowSpec P bx xn xd cy yn yd b ns ds err) ∧ RAns w b ns ds err e w' := by
  obtain ⟨hb, b, x1, n, y1, x2, m, y2, err, rfl, hO⟩ := h
  rcases hO.out with ⟨hp, rfl, rfl, rfl, rfl, rfl, rfl, rfl, rfl⟩ | ⟨hp, hx, rfl, rfl, rfl, rfl, rfl, rfl, rfl, rfl⟩ | ⟨hp, h0, h1, h2, rfl, rfl, rfl, rfl, rfl, rfl, rfl, rfl, hbig⟩ | ⟨hp, h0, h1, rfl, hf1, hf2, ns, ds, rfl, rfl, on, od, hr, hv, hd⟩
  · exact ⟨false, [], [], 22, Or.inl ⟨hp, rfl, rfl, rfl, rfl⟩, hb, none, 0, none, 0, rfl, nil_rd _, nil_rd _⟩
  · exact ⟨false, [], [], 3, Or.inr (Or.inl ⟨hp, hx, rfl, rfl, rfl, rfl⟩), hb, none, 0, none, 0, rfl, nil_rd _, nil_rd _⟩
  · exact ⟨false, [], [], 8, Or.inr (Or.inr (Or.inl ⟨hp, h0, h1, h2, hbig, rfl, rfl, rfl, rfl⟩)), hb, none, 0, none, 0, rfl, nil_rd _, nil_rd _⟩
  · exact ⟨b, ns, ds, 0, Or.inr (Or.inr (Or.inr ⟨hp, h0, h1, hf1, hf2, rfl, hr, hv, hd⟩)), hb, x1, y1, x2, y2, rfl, on.rd, od.rd⟩
theorem pow_same {w w' : World} {P : Prop} {bx cy : Bool} {xn xd yn yd : List Int} {e : Ending} {b : Bool} {ns ds : List Int} {err : Int} (HS : Hid (PowSpec P bx xn xd cy yn yd b ns ds err)) (h : ∃ c ms es f, Hid (PowSpec P bx xn xd cy yn yd c ms es f) ∧ RAns w c ms es f e w') : RAns w b ns ds err e w' := by
  obtain ⟨c, ms, es, f, HK, hr⟩ := h
  obtain ⟨rfl, rfl, rfl, rfl⟩ := PowSpec.unique HS.out HK.out
  exact hr
theorem count_same {w w' : World} {P C : Prop} {N : Nat} {e : Ending} {b : Bool} {ns ds : List Int} {err : Int} (HS : Hid (CountSpec P C N b ns ds err)) (h : ∃ c ms es f, Hid (CountSpec P C N c ms es f) ∧ RAns w c ms es f e w') : RAns w b ns ds err e w' := by
  obtain ⟨c, ms, es, f, HK, hr⟩ := h
  obtain ⟨rfl, rfl, rfl, rfl⟩ := CountSpec.unique HS.out HK.out
  exact hr

/-- A base that is not 1 in size, to a great power. -/
theorem pow_wide {b cy : Bool} {xn xd : List Int} (h : RightP b xn xd) (h0 : 0 < xn.length) (hne : ¬ (xn = [1] ∧ xd = [1])) {N : Nat} (hN : 1024 ≤ N) : pw 32 ≤ pnum cy xn xd ^ N ∨ pw 32 ≤ pden cy xn xd ^ N := by
  have h1 := can_low h.2.2.1 h0
  have h2 := pw_pos (xn.length - 1)
  have h3 := (right_pos h).1
  by_cases a : 2 ≤ val xn
  · cases cy with
    | false => exact Or.inl (pow_huge _ _ a hN)
    | true => exact Or.inr (pow_huge _ _ a hN)
  · by_cases c : 2 ≤ val xd
    · cases cy with
      | false => exact Or.inr (pow_huge _ _ c hN)
      | true => exact Or.inl (pow_huge _ _ c hN)
    · exact absurd ⟨can_inj h.2.2.1 can_one (by rw [one_val]; omega), can_inj h.2.2.2.1 can_one (by rw [one_val]; omega)⟩ hne
theorem pow_fin {b : Bool} {zs us : List Int} {A D : Int} {N : Nat} (cz : can zs) (cu : can us) (vz : val zs = A ^ N) (vu : val us = D ^ N) (hA : 0 < A) (hD : 0 < D) (hg : gI A D = 1) (lz : A ^ N < pw 32) (lu : D ^ N < pw 32) :
    RightP b zs us ∧ sg b (val zs) = sg b (A ^ N) := by
  obtain ⟨h1, _, _, h2⟩ := pow_right (b := b) cz cu vz vu (Int.le_of_lt hA) hD hg lz lu
  have hp : 0 < A ^ N := Int.pow_pos hA
  have hz : 0 < zs.length := by
    by_cases h : zs.length = 0
    · have := (can_zero cz).1 h
      omega
    · omega
  rw [decide_eq_true hz, Bool.and_true] at h1 h2
  exact ⟨h1, h2⟩
theorem right_zero : RightP false [] [1] := ⟨by decide, by decide, ⟨lim_nil, Or.inl rfl⟩, can_one, (fun h => by cases h.1), by decide, by decide⟩
theorem pow_big1 {cy : Bool} {xn xd : List Int} {N : Nat} (h : pw 32 ≤ val xn ^ N ∨ pw 32 ≤ val xd ^ N) : pw 32 ≤ pnum cy xn xd ^ N ∨ pw 32 ≤ pden cy xn xd ^ N := by
  cases cy with
  | false => exact h
  | true => exact h.symm
end Go.Proofs.YtidbebfendjnlaaGreatDoor

/- rat.Factorial. -/
namespace Go.Proofs.YtidbebfendjnlaaGreatDoor
set_option linter.unusedVariables false
set_option linter.unusedSimpArgs false
open Go.RowKit

/-- The product of 1 to n. -/
def nfact : Nat → Nat
  | 0 => 1
  | n + 1 => nfact n * (n + 1)
theorem nfact_grow (n : Nat) : nfact n ≤ nfact (n + 1) := Nat.le_mul_of_pos_right _ (Nat.succ_pos n)
theorem nfact_mono {j F : Nat} (h : j ≤ F) : nfact j ≤ nfact F := by
  induction F with
  | zero => have : j = 0 := by omega
            subst this; exact Nat.le_refl _
  | succ F ih =>
    by_cases hj : j = F + 1
    · subst hj; exact Nat.le_refl _
    · exact Nat.le_trans (ih (by omega)) (nfact_grow F)

section
variable {w : World} {b : Bool} {a1 a2 : Option Addr} {c1 c2 : Nat} {xn xd : List Int}
set_option maxRecDepth 100000 in
set_option maxHeartbeats 16000000 in
theorem factorial_rat (h1 : Rd w.heap.size w (.slice a1 xn.length c1) xn) (h2 : Rd w.heap.size w (.slice a2 xd.length c2) xd) :
    Calls Tryz.prog 49 #[.agg #[.bool b, .slice a1 xn.length c1, .slice a2 xd.length c2]] w fun e w' => ∃ c ns ds err, Hid (CountSpec (RightP b xn xd) (IsCount b xd) (nfact (val xn).toNat) c ns ds err) ∧ RAns w c ns ds err e w' := by
  obtain ⟨X, R, g⟩ := in1_new (b := b) w h1 h2
  have s0 : w.heap.size ≤ w.heap.size + 1 := by omega
  clear h1 h2
  obtain ⟨x0, x1, x2⟩ := X.cells
  go_enter Tryz.func49, Tryz.ntmps49
  go_wp2_with fail
  clear x0 x1 x2
  generalize hA : (w.alloc (.cells #[.bool b, .slice a1 xn.length c1, .slice a2 xd.length c2] 25)).alloc (.cells #[.bool false, .slice none 0 0, .slice none 0 0] 25) = v0 at *
  clear hA
  refine (right_rat X.rn X.rd (Nat.le_refl _)).mono ?_
  rintro e wa ⟨⟨r, rfl, hr⟩, ka⟩
  replace X := X.below ka
  replace R := R.below ka
  replace g := g.trans (ka.mono g.size)
  clear ka
  cases r with
  | false =>
    have HP : Hid (¬ RightP b xn xd) := fun h => by have := hr.2 h; cases this
    clear hr
    have q0 := R.box.c0
    have q1 := R.box.c1
    have q2 := R.box.c2
    have p0 := R.box.f0
    have p1 := R.box.f1
    have p2 := R.box.f2
    go_wp2
    have hR3 := R.box.set (.bool false) (.slice none 0 0) (.slice none 0 0)
    have r0 := hR3.c0
    have r1 := hR3.c1
    have r2 := hR3.c2
    refine bodyPost_ret (v := .tuple #[.agg #[.bool false, .slice none 0 0, .slice none 0 0], .int .i64 22]) (by simp [results, Tryz.results49, go_sem, r0, r1, r2]) rfl ?_
    exact ⟨false, [], [], 22, Or.inl ⟨HP.out, rfl, rfl, rfl, rfl⟩, Below.set3 g s0 _ _ _, none, 0, none, 0, rfl, nil_rd _, nil_rd _⟩
  | true =>
    have HP : Hid (RightP b xn xd) := hr.1 rfl
    clear hr
    obtain ⟨x0, x1, x2⟩ := X.cells
    go_wp2_with fail
    clear x0 x1 x2
    refine (isCount_any X.rn X.rd).mono ?_
    rintro e wb ⟨⟨r, rfl, hr⟩, kb⟩
    replace X := X.below kb
    replace R := R.below kb
    replace g := g.trans (kb.mono g.size)
    clear kb
    cases r with
    | false =>
      have HC : Hid (¬ IsCount b xd) := fun h => by have := hr.2 h; cases this
      clear hr
      have q0 := R.box.c0
      have q1 := R.box.c1
      have q2 := R.box.c2
      have p0 := R.box.f0
      have p1 := R.box.f1
      have p2 := R.box.f2
      go_wp2
      have hR3 := R.box.set (.bool false) (.slice none 0 0) (.slice none 0 0)
      have r0 := hR3.c0
      have r1 := hR3.c1
      have r2 := hR3.c2
      refine bodyPost_ret (v := .tuple #[.agg #[.bool false, .slice none 0 0, .slice none 0 0], .int .i64 3]) (by simp [results, Tryz.results49, go_sem, r0, r1, r2]) rfl ?_
      exact ⟨false, [], [], 3, Or.inr (Or.inl ⟨HP.out, HC.out, rfl, rfl, rfl, rfl⟩), Below.set3 g s0 _ _ _, none, 0, none, 0, rfl, nil_rd _, nil_rd _⟩
    | true =>
      have HC : Hid (IsCount b xd) := hr.1 rfl
      clear hr
      obtain ⟨F, hF⟩ : ∃ F : Nat, Hid (F = (val xn).toNat ∧ val xn = (F : Int)) := ⟨(val xn).toNat, rfl, by have := (right_pos HP.out).2; omega⟩
      have hFb : Fits F := by
        constructor
        rw [← hF.out.2]
        exact (can_len_pw HP.out.2.2.1 32).1 HP.out.1
      go_wp2_with fail
      refine (one_num _).mono ?_
      rintro e v ⟨t0, p1, q1, HS0, rfl, os0, ka⟩
      have gv := g.trans (ka.mono g.size)
      have XV := X.below ka
      have RV := R.below ka
      have ot0 := os0
      go_wp2_with fail
      refine (one_num _).mono ?_
      rintro e wc ⟨i0, p2, q2, HI0, rfl, oi0, kb⟩
      have tb : Below wb.heap.size wb wc := ka.trans (kb.mono ka.size)
      have os1 : Own wb.heap.size wc (.slice p1 t0.length q1) t0 := os0.below kb (Nat.le_refl _)
      have oi1 : Own wb.heap.size wc (.slice p2 i0.length q2) i0 := oi0.mono ka.size
      have c0 : Hid (can t0 ∧ can i0 ∧ t0.length ≤ 32 ∧ i0.length ≤ 33 ∧ val t0 = 1 ∧ val i0 = 1) := by
        unfold Hid; rw [HS0.out, HI0.out]; exact ⟨can_one, can_one, by simp, by simp, one_val, one_val⟩
      clear os0 ot0 oi0 gv XV RV ka kb
      go_wp2
      go_loopg [4, 5] F (fun gk sv iv wr => ∃ (j : Nat) (ss is : List Int) (a : Option Addr) (c : Nat) (a' : Option Addr) (c' : Nat), Hid (gk = F - j) ∧ sv = .slice a ss.length c ∧ iv = .slice a' is.length c' ∧ j ≤ F ∧ can ss ∧ can is ∧ Hid (val is = (j : Int) + 1 ∧ val ss = (nfact j : Int)) ∧ ss.length ≤ 32 ∧ is.length ≤ 33 ∧ Own wb.heap.size wr (.slice a ss.length c) ss ∧ Own wb.heap.size wr (.slice a' is.length c') is ∧ Below wb.heap.size wb wr)
      case atStart => exact ⟨0, t0, i0, p1, q1, p2, q2, rfl, rfl, rfl, Nat.zero_le _, c0.out.1, c0.out.2.1, ⟨by rw [c0.out.2.2.2.2.2]; rfl, by rw [c0.out.2.2.2.2.1]; rfl⟩, c0.out.2.2.1, c0.out.2.2.2.1, os1, oi1, tb⟩
      case round =>
        obtain ⟨j, ss, is, a, c, a', c', hgk, rfl, rfl, hj, cs, ci, HV, ls, li, os, oi, tr⟩ := hrel
        have X1 := X.below tr
        obtain ⟨x0, x1, x2⟩ := X1.cells
        go_wp2_with fail
        clear x0 x1 x2
        refine (compare_bl oi.rd X1.rn).mono ?_
        rintro e w1 ⟨rfl, k1⟩
        have t1 : Below wb.heap.size wb w1 := tr.trans (k1.mono tr.size)
        rw [HV.out.1, hF.out.2]
        by_cases hlt : j < F
        · have hc : cmpI ((j : Int) + 1) (F : Int) ≤ 0 := by unfold cmpI; split; omega; split <;> omega
          have os1 := os.below k1 (Nat.le_refl _)
          have oi1 := oi.below k1 (Nat.le_refl _)
          go_wp2_with fail
          refine (prod2 os1.rd oi1.rd (Nat.le_refl _) (Nat.le_refl _) (by omega) (by omega)).mono ?_
          rintro e w3 ⟨us, cu, vu, lu, p4, q4, rfl, ou, k3⟩
          have t3 : Below wb.heap.size wb w3 := t1.trans (k3.mono t1.size)
          have HU : Hid (val us = (nfact (j + 1) : Int)) := by
            unfold Hid
            rw [vu, HV.out.2, HV.out.1, nfact, Int.natCast_mul]
            rfl
          clear vu
          have ou3 : Own wb.heap.size w3 (.slice p4 us.length q4) us := ou.mono t1.size
          have oi3 := oi1.below k3 (Nat.le_refl _)
          have g3 : Below w.heap.size w w3 := g.trans (t3.mono g.size)
          clear hc lu os1 oi1 ou
          by_cases hbig : 32 < us.length
          · have HB : Great (nfact F) := by
              constructor
              have h5 : ¬ val us < pw 32 := fun h => by have := (can_len_pw cu 32).2 h; omega
              have h6 := nfact_mono (show j + 1 ≤ F by omega)
              rw [HU.out] at h5
              omega
            have R4 := R.below t3
            have q0 := R4.box.c0
            have q1' := R4.box.c1
            have q2' := R4.box.c2
            have p0 := R4.box.f0
            have p1' := R4.box.f1
            have p2' := R4.box.f2
            go_wp2
            have hR3 := R4.box.set (.bool false) (.slice none 0 0) (.slice none 0 0)
            have r0 := hR3.c0
            have r1 := hR3.c1
            have r2 := hR3.c2
            try simp only [Exit.inBlock, Exit.then]
            refine bodyPost_ret (v := .tuple #[.agg #[.bool false, .slice none 0 0, .slice none 0 0], .int .i64 8]) ?_ rfl ?_
            · simp [results, Tryz.results49, go_sem, r0, r1, r2]
            exact ⟨false, [], [], 8, Or.inr (Or.inr (Or.inl ⟨HP.out, HC.out, by rw [← hF.out.1]; exact HB.is, rfl, rfl, rfl, rfl⟩)), Below.set3 g3 s0 _ _ _, none, 0, none, 0, rfl, nil_rd _, nil_rd _⟩
          · go_wp2_with fail
            refine (one_num _).mono ?_
            rintro e w5 ⟨ds, p7, q7, HD, rfl, od, k5⟩
            have t5 : Below wb.heap.size wb w5 := t3.trans (k5.mono t3.size)
            have oi5 := oi3.below k5 (Nat.le_refl _)
            have ou5 := ou3.below k5 (Nat.le_refl _)
            have ld : ds.length ≤ 1 := by rw [HD.out]; exact Nat.le_refl _
            go_wp2_with fail
            refine (sum2 oi5.rd od.rd (Nat.le_refl _) (Nat.le_refl _) (by omega) (by omega)).mono ?_
            rintro e w6 ⟨ts, ct, vt, lt', p8, q8, rfl, ot, k6⟩
            have t6 : Below wb.heap.size wb w6 := t5.trans (k6.mono t5.size)
            have HT : Hid (val ts = ((j + 1 : Nat) : Int) + 1) := by unfold Hid; rw [vt, HV.out.1, HD.out, one_val]; omega
            clear vt
            have lts : ts.length ≤ 33 := by
              have h5 : (F : Int) < pw 32 := hFb.is
              have h6 := pw_pos 32
              refine (can_len_pw ct (32 + 1)).2 ?_
              rw [HT.out, pw_succ]
              generalize pw 32 = Z at *
              omega
            have ou6 := ou5.below k6 (Nat.le_refl _)
            have ot6 : Own wb.heap.size w6 (.slice p8 ts.length q8) ts := ot.mono t5.size
            go_wp2
            go_roundg (F - (j + 1))
            case rel => exact ⟨j + 1, us, ts, p4, q4, p8, q8, rfl, rfl, rfl, by omega, cu, ct, ⟨HT.out, HU.out⟩, by omega, lts, ou6, ot6, t6⟩
            case measure => rw [hgk.out]; omega
        · have hc : cmpI ((j : Int) + 1) (F : Int) = 1 := cmpI_gt (by omega)
          obtain rfl : j = F := by omega
          rw [hc]
          clear hc
          have os1 := os.below k1 (Nat.le_refl _)
          have HN : Fits (nfact j) := by constructor; rw [← HV.out.2]; exact (can_len_pw cs 32).1 ls
          go_wp2_with fail
          refine (one_num _).mono ?_
          rintro e w2 ⟨ds, p7, q7, HD, rfl, od, k2⟩
          have t2 : Below wb.heap.size wb w2 := t1.trans (k2.mono t1.size)
          have ld : ds.length ≤ 32 := by rw [HD.out]; simp
          have os2 := os1.below k2 (Nat.le_refl _)
          have od2 : Own wb.heap.size w2 (.slice p7 ds.length q7) ds := od.mono t1.size
          go_wp2_with fail
          refine (limited_ok false a p7 ss.length c ds.length q7 _ ls ld).mono ?_
          rintro e w3 ⟨rfl, k3⟩
          have t3 : Below wb.heap.size wb w3 := t2.trans (k3.mono t2.size)
          have hbb : (false && decide (0 < ss.length)) = false := rfl
          rw [hbb]
          clear hbb
          have os3 := os2.below k3 (Nat.le_refl _)
          have od3 := od2.below k3 (Nat.le_refl _)
          have R3 := R.below t3
          have q0 := R3.box.c0
          have q1' := R3.box.c1
          have q2' := R3.box.c2
          have p0 := R3.box.f0
          have p1' := R3.box.f1
          have p2' := R3.box.f2
          go_wp2
          have hR3 := R3.box.set (.bool false) (.slice a ss.length c) (.slice p7 ds.length q7)
          have r0 := hR3.c0
          have r1 := hR3.c1
          have r2 := hR3.c2
          try simp only [Exit.inBlock, Exit.then]
          refine bodyPost_ret (v := .tuple #[.agg #[.bool false, .slice a ss.length c, .slice p7 ds.length q7], .int .i64 0]) ?_ rfl ?_
          · simp [results, Tryz.results49, go_sem, r0, r1, r2]
          exact ⟨false, ss, ds, 0, Or.inr (Or.inr (Or.inr ⟨HP.out, HC.out, by rw [← hF.out.1]; exact HN.is, rfl, rfl, cs, by rw [← hF.out.1]; exact HV.out.2, HD.out⟩)), Below.set3 (g.trans (t3.mono g.size)) s0 _ _ _, a, c, p7, q7, rfl, (Own.set3 os3 R.lt _ _ _).rd, (Own.set3 od3 R.lt _ _ _).rd⟩
end
end Go.Proofs.YtidbebfendjnlaaGreatDoor

/- The document's whole and Factorial. -/
namespace Go.Proofs.YtidbebfendjnlaaGreatDoor
set_option linter.unusedVariables false
set_option linter.unusedSimpArgs false
open Go.RowKit

theorem big_whole {N : Int} (h : Big N 1) (h0 : 0 ≤ N) : pw 32 ≤ N := by
  obtain ⟨b, ns, ds, cn, cd, hd, hg, hv, hl⟩ := h
  rw [Int.mul_one] at hv
  have e := whole_den cn cd hd hg hv
  subst e
  rw [one_val, Int.mul_one] at hv
  have hl2 : 32 < ns.length := by simp at hl; omega
  have h5 : ¬ val ns < pw 32 := fun h => by have := (can_len_pw cn 32).2 h; omega
  have h6 := (val_bound cn.1).1
  have h7 := pw_pos 32
  have h8 : sg b (val ns) = val ns ∨ sg b (val ns) = -(val ns) := by unfold sg; split <;> simp
  omega
theorem right_whole {c : Bool} {ns ds : List Int} {N : Int} (hr : RightP c ns ds) (hv : sg c (val ns) * 1 = N * val ds) (h0 : 0 < N) : c = false ∧ val ns = N ∧ ds = [1] ∧ N < pw 32 := by
  rw [Int.mul_one] at hv
  have e := whole_den hr.2.2.1 hr.2.2.2.1 hr.2.2.2.2.2.1 hr.2.2.2.2.2.2 hv
  have hp := (right_pos hr).2
  have hl := (can_len_pw hr.2.2.1 32).1 hr.1
  subst e
  rw [one_val, Int.mul_one] at hv
  cases c with
  | true => have h2 : sg true (val ns) = -(val ns) := by simp [sg]
            omega
  | false => rw [sg_false] at hv; exact ⟨rfl, hv, rfl, by omega⟩
theorem rmakes_count {w w' : World} {P C : Prop} {N : Nat} {e : Ending} (hP : P) (hC : C) (h0 : 0 < N) (h : RMakes w (N : Int) 1 e w') : ∃ c ns ds err, Hid (CountSpec P C N c ns ds err) ∧ RAns w c ns ds err e w' := by
  obtain ⟨hb, ⟨he, hbig⟩ | ⟨c, ns, ds, a1, c1, a2, c2, he, on, od, hr, hv⟩⟩ := h
  · exact ⟨false, [], [], 8, Or.inr (Or.inr (Or.inl ⟨hP, hC, big_whole hbig (by omega), rfl, rfl, rfl, rfl⟩)), hb, none, 0, none, 0, he, nil_rd _, nil_rd _⟩
  · obtain ⟨e1, e2, e3, e4⟩ := right_whole hr hv (by omega)
    exact ⟨c, ns, ds, 0, Or.inr (Or.inr (Or.inr ⟨hP, hC, e4, rfl, e1, hr.2.2.1, e2, e3⟩)), hb, a1, c1, a2, c2, he, on.rd, od.rd⟩
theorem nfact_pos (n : Nat) : 0 < nfact n := by
  induction n with
  | zero => decide
  | succ n ih => exact Nat.mul_pos ih (Nat.succ_pos n)
theorem nfact_great {n : Nat} (h : 1000 < n) : pw 32 ≤ (nfact n : Int) := by
  have h1 := nfact_mono (show 200 ≤ n by omega)
  have h2 : pw 32 ≤ ((nfact 200 : Nat) : Int) := by decide +kernel
  omega

section
variable {w : World} {b : Bool} {a1 a2 : Option Addr} {c1 c2 : Nat} {xn xd : List Int}
set_option maxRecDepth 100000 in
set_option maxHeartbeats 3200000 in
theorem refWhole_any (h1 : Rd w.heap.size w (.slice a1 xn.length c1) xn) (h2 : Rd w.heap.size w (.slice a2 xd.length c2) xd) (hr : Hid (RightP b xn xd)) :
    Calls Tryz.prog 98 #[.agg #[.bool b, .slice a1 xn.length c1, .slice a2 xd.length c2]] w fun e w' => TellsP (IsCount b xd) e ∧ Below w.heap.size w w' := by
  have X := nvar_new (b := b) h1 h2
  have g := below_alloc w (.cells #[.bool b, .slice a1 xn.length c1, .slice a2 xd.length c2] 25)
  obtain ⟨x0, x1, x2⟩ := X.cells
  go_enter Tryz.func98, Tryz.ntmps98
  go_wp2_with fail
  clear x0 x1 x2
  generalize hA : w.alloc (.cells #[.bool b, .slice a1 xn.length c1, .slice a2 xd.length c2] 25) = v at *
  clear hA
  refine (refIsInt_rat X.rn X.rd).mono ?_
  rintro e wa ⟨⟨r, rfl, hi⟩, ka⟩
  replace X := X.below ka
  replace g := g.trans (ka.mono g.size)
  clear ka
  obtain ⟨x0, x1, x2⟩ := X.cells
  cases r with
  | false =>
    have HX : Hid (¬ IsWhole b xn xd) := fun h => by have := hi.2 h; cases this
    clear hi
    go_wp2
    go_ret
    exact ⟨TellsP.no (fun h => HX.out ⟨hr.out, h.1⟩), g⟩
  | true =>
    have HX : Hid (IsWhole b xn xd) := hi.1 rfl
    clear hi
    cases b with
    | false =>
      go_wp2
      go_ret
      exact ⟨TellsP.yes ⟨HX.out.2, rfl⟩, g⟩
    | true =>
      go_wp2
      go_ret
      exact ⟨TellsP.no (fun h => by cases h.2), g⟩

set_option maxRecDepth 100000 in
set_option maxHeartbeats 16000000 in
theorem refFactorial_rat (h1 : Rd w.heap.size w (.slice a1 xn.length c1) xn) (h2 : Rd w.heap.size w (.slice a2 xd.length c2) xd) :
    Calls Tryz.prog 50 #[.agg #[.bool b, .slice a1 xn.length c1, .slice a2 xd.length c2]] w fun e w' => ∃ c ns ds err, Hid (CountSpec (RightP b xn xd) (IsCount b xd) (nfact (val xn).toNat) c ns ds err) ∧ RAns w c ns ds err e w' := by
  obtain ⟨X, R, g⟩ := in1_new (b := b) w h1 h2
  have s0 : w.heap.size ≤ w.heap.size + 1 := by omega
  clear h1 h2
  obtain ⟨x0, x1, x2⟩ := X.cells
  go_enter Tryz.func50, Tryz.ntmps50
  go_wp2_with fail
  clear x0 x1 x2
  generalize hA : (w.alloc (.cells #[.bool b, .slice a1 xn.length c1, .slice a2 xd.length c2] 25)).alloc (.cells #[.bool false, .slice none 0 0, .slice none 0 0] 25) = v0 at *
  clear hA
  refine (refRight_rat X.rn X.rd).mono ?_
  rintro e wa ⟨⟨r, rfl, hr⟩, ka⟩
  replace X := X.below ka
  replace R := R.below ka
  replace g := g.trans (ka.mono g.size)
  clear ka
  cases r with
  | false =>
    have HP : Hid (¬ RightP b xn xd) := fun h => by have := hr.2 h; cases this
    clear hr
    have q0 := R.box.c0
    have q1 := R.box.c1
    have q2 := R.box.c2
    have p0 := R.box.f0
    have p1 := R.box.f1
    have p2 := R.box.f2
    go_wp2
    have hR3 := R.box.set (.bool false) (.slice none 0 0) (.slice none 0 0)
    have r0 := hR3.c0
    have r1 := hR3.c1
    have r2 := hR3.c2
    refine bodyPost_ret (v := .tuple #[.agg #[.bool false, .slice none 0 0, .slice none 0 0], .int .i64 22]) (by simp [results, Tryz.results50, go_sem, r0, r1, r2]) rfl ?_
    exact ⟨false, [], [], 22, Or.inl ⟨HP.out, rfl, rfl, rfl, rfl⟩, Below.set3 g s0 _ _ _, none, 0, none, 0, rfl, nil_rd _, nil_rd _⟩
  | true =>
    have HP : Hid (RightP b xn xd) := hr.1 rfl
    clear hr
    obtain ⟨x0, x1, x2⟩ := X.cells
    go_wp2_with fail
    clear x0 x1 x2
    refine (refWhole_any X.rn X.rd HP).mono ?_
    rintro e wb ⟨⟨r, rfl, hr⟩, kb⟩
    replace X := X.below kb
    replace R := R.below kb
    replace g := g.trans (kb.mono g.size)
    clear kb
    cases r with
    | false =>
      have HC : Hid (¬ IsCount b xd) := fun h => by have := hr.2 h; cases this
      clear hr
      have q0 := R.box.c0
      have q1 := R.box.c1
      have q2 := R.box.c2
      have p0 := R.box.f0
      have p1 := R.box.f1
      have p2 := R.box.f2
      go_wp2
      have hR3 := R.box.set (.bool false) (.slice none 0 0) (.slice none 0 0)
      have r0 := hR3.c0
      have r1 := hR3.c1
      have r2 := hR3.c2
      refine bodyPost_ret (v := .tuple #[.agg #[.bool false, .slice none 0 0, .slice none 0 0], .int .i64 3]) (by simp [results, Tryz.results50, go_sem, r0, r1, r2]) rfl ?_
      exact ⟨false, [], [], 3, Or.inr (Or.inl ⟨HP.out, HC.out, rfl, rfl, rfl, rfl⟩), Below.set3 g s0 _ _ _, none, 0, none, 0, rfl, nil_rd _, nil_rd _⟩
    | true =>
      have HC : Hid (IsCount b xd) := hr.1 rfl
      clear hr
      obtain ⟨F, hF⟩ : ∃ F : Nat, Hid (F = (val xn).toNat ∧ val xn = (F : Int)) := ⟨(val xn).toNat, rfl, by have := (right_pos HP.out).2; omega⟩
      have l1 : xn.length ≤ 17592186044415 := Nat.le_trans HP.out.1 (by decide)
      obtain ⟨x0, x1, x2⟩ := X.cells
      go_wp2_with fail
      clear x0 x1 x2
      refine (refSmall_any X.rn l1).mono ?_
      rintro e wc ⟨rfl, kc⟩
      replace X := X.below kc
      replace R := R.below kc
      replace g := g.trans (kc.mono g.size)
      clear kc
      rw [hF.out.2]
      by_cases hs : (F : Int) < 9223372036854775808
      · rw [smallV_lt hs]
        by_cases hbig : 1000 < F
        · have HB : Great (nfact F) := ⟨nfact_great hbig⟩
          have hd1 : decide ((F : Int) > 1000) = true := decide_eq_true (by omega)
          have q0 := R.box.c0
          have q1 := R.box.c1
          have q2 := R.box.c2
          have p0 := R.box.f0
          have p1 := R.box.f1
          have p2 := R.box.f2
          go_wp2
          have hR3 := R.box.set (.bool false) (.slice none 0 0) (.slice none 0 0)
          have r0 := hR3.c0
          have r1 := hR3.c1
          have r2 := hR3.c2
          refine bodyPost_ret (v := .tuple #[.agg #[.bool false, .slice none 0 0, .slice none 0 0], .int .i64 8]) (by simp [results, Tryz.results50, go_sem, r0, r1, r2]) rfl ?_
          exact ⟨false, [], [], 8, Or.inr (Or.inr (Or.inl ⟨HP.out, HC.out, by rw [← hF.out.1]; exact HB.is, rfl, rfl, rfl, rfl⟩)), Below.set3 g s0 _ _ _, none, 0, none, 0, rfl, nil_rd _, nil_rd _⟩
        · have hd1 : decide ((F : Int) > 1000) = false := decide_eq_false (by omega)
          have hF1 : F ≤ 1000 := by omega
          clear hbig hs
          go_wp2_with fail
          refine (refOne_any _).mono ?_
          rintro e wd ⟨t0, p1, q1, HS0, rfl, os0, kd⟩
          have c0 : Hid (can t0 ∧ t0.length ≤ 4 ∧ val t0 = 1) := by
            unfold Hid; rw [HS0.out]; exact ⟨can_one, by simp, one_val⟩
          go_wp2
          go_loopg [6, 7] (F - 1) (fun gk sv iv wr => ∃ (j : Nat) (ss : List Int) (a : Option Addr) (c : Nat), Hid (gk = F - j) ∧ sv = .slice a ss.length c ∧ iv = .int .i64 ((j : Int) + 1) ∧ 1 ≤ j ∧ j ≤ F + 1 ∧ Hid (j ≤ F ∨ (F = 0 ∧ j = 1)) ∧ can ss ∧ Hid (val ss = (nfact j : Int)) ∧ ss.length ≤ 4 * j ∧ Own wc.heap.size wr (.slice a ss.length c) ss ∧ Below wc.heap.size wc wr)
          case atStart => exact ⟨1, t0, p1, q1, rfl, rfl, rfl, Nat.le_refl _, by omega, (show 1 ≤ F ∨ (F = 0 ∧ 1 = 1) by omega), c0.out.1, by unfold Hid; rw [c0.out.2.2]; rfl, c0.out.2.1, os0, kd⟩
          case round =>
            obtain ⟨j, ss, a, c, hgk, rfl, rfl, hj1, hjF, hjo, cs, HV, ls, os, tr⟩ := hrel
            have hu : IntKind.u64.wrap ((j : Int) + 1) = (j : Int) + 1 := by rw [IntKind.wrap_u64]; omega
            have hw : IntKind.i64.wrap ((j : Int) + 1 + 1) = (j : Int) + 1 + 1 := by rw [IntKind.wrap_i64]; omega
            by_cases hlt : j < F
            · have hle : decide ((j : Int) + 1 ≤ (F : Int)) = true := decide_eq_true (by omega)
              go_wp2_with fail
              refine (refOf_num ((j : Int) + 1) (by omega) (by omega) _).mono ?_
              rintro e w1 ⟨us, cu, vu, lu, p4, q4, rfl, ou, k1⟩
              have t1 : Below wc.heap.size wc w1 := tr.trans (k1.mono tr.size)
              have os1 := os.below k1 (Nat.le_refl _)
              go_wp2_with fail
              refine (refMul_any os1.rd (Nat.le_refl _) ou.rd (Nat.le_refl _) (by omega) (by omega)).mono ?_
              rintro e w2 ⟨zs, cz, vz, lz, p5, q5, rfl, oz, k2⟩
              have t2 : Below wc.heap.size wc w2 := t1.trans (k2.mono t1.size)
              have HZ : Hid (val zs = (nfact (j + 1) : Int)) := by
                unfold Hid
                rw [vz, HV.out, vu.out, nfact, Int.natCast_mul]
                rfl
              clear vz
              have oz2 : Own wc.heap.size w2 (.slice p5 zs.length q5) zs := oz.mono t1.size
              go_wp2
              go_roundg (F - (j + 1))
              case rel => exact ⟨j + 1, zs, p5, q5, rfl, rfl, by go_num, by omega, by omega, Or.inl (by omega), cz, HZ, by omega, oz2, t2⟩
              case measure => rw [hgk.out]; omega
            · have hle : decide ((j : Int) + 1 ≤ (F : Int)) = false := decide_eq_false (by omega)
              have HN : Hid (nfact j = nfact F) := by
                unfold Hid
                rcases hjo.out with h | ⟨h, h'⟩
                · have : j = F := by omega
                  rw [this]
                · rw [h, h']; rfl
              go_wp2_with fail
              refine (refOne_any _).mono ?_
              rintro e w1 ⟨ds, p7, q7, HD, rfl, od, k1⟩
              have t1 : Below wc.heap.size wc w1 := tr.trans (k1.mono tr.size)
              have os1 := os.below k1 (Nat.le_refl _)
              have ld : ds.length ≤ 10000 := by rw [HD.out]; simp
              go_wp2_with fail
              refine (refMake_rat os1.rd od.rd (by omega) ld (by rw [HD.out, one_val]; decide)).mono ?_
              intro e w2 hm6
              rw [HD.out, one_val, sg_false, HV.out, HN.out] at hm6
              obtain ⟨bm6, b6, x5, n5, y5, x6, n6, y6, err, rfl, hform⟩ := (RMakes.from' t1 hm6).form
              have RF := R.below bm6
              have q0 := RF.box.c0
              have q1' := RF.box.c1
              have q2' := RF.box.c2
              have p0 := RF.box.f0
              have p1' := RF.box.f1
              have p2' := RF.box.f2
              go_wp2
              have hR3 := RF.box.set (.bool b6) (.slice x5 n5 y5) (.slice x6 n6 y6)
              have r0 := hR3.c0
              have r1 := hR3.c1
              have r2 := hR3.c2
              try simp only [Exit.inBlock, Exit.then]
              refine bodyPost_ret (v := .tuple #[.agg #[.bool b6, .slice x5 n5 y5, .slice x6 n6 y6], .int .i64 err]) ?_ rfl ?_
              · simp [results, Tryz.results50, go_sem, r0, r1, r2]
              have hfin := rmakes_count (C := IsCount b xd) HP.out HC.out (nfact_pos F) (rform_done g s0 R.lt bm6 hform)
              rw [← hF.out.1]
              exact hfin
      · rw [smallV_ge (by omega)]
        have HB : Great (nfact F) := ⟨nfact_great (by omega)⟩
        clear hs
        have q0 := R.box.c0
        have q1 := R.box.c1
        have q2 := R.box.c2
        have p0 := R.box.f0
        have p1 := R.box.f1
        have p2 := R.box.f2
        go_wp2
        have hR3 := R.box.set (.bool false) (.slice none 0 0) (.slice none 0 0)
        have r0 := hR3.c0
        have r1 := hR3.c1
        have r2 := hR3.c2
        refine bodyPost_ret (v := .tuple #[.agg #[.bool false, .slice none 0 0, .slice none 0 0], .int .i64 8]) (by simp [results, Tryz.results50, go_sem, r0, r1, r2]) rfl ?_
        exact ⟨false, [], [], 8, Or.inr (Or.inr (Or.inl ⟨HP.out, HC.out, by rw [← hF.out.1]; exact HB.is, rfl, rfl, rfl, rfl⟩)), Below.set3 g s0 _ _ _, none, 0, none, 0, rfl, nil_rd _, nil_rd _⟩
end
end Go.Proofs.YtidbebfendjnlaaGreatDoor

/- The document's Zero and Binomial. -/
namespace Go.Proofs.YtidbebfendjnlaaGreatDoor
set_option linter.unusedVariables false
set_option linter.unusedSimpArgs false
open Go.RowKit

theorem binom_up {n j : Nat} (h : j < n) : binom n (j + 1) * (j + 1) = binom n j * (n - j) := by
  obtain ⟨m, rfl⟩ : ∃ m, n = m + 1 := ⟨n - 1, by omega⟩
  have h1 := binom_absorb m j
  have h2 := binom_absorb m (m - j)
  have h3 := binom_sym (m + 1) j (m - j + 1) (by omega)
  have h4 := binom_sym m (m - j) j (by omega)
  rw [h4] at h2
  rw [h3, Nat.mul_comm, h1, ← h2, Nat.mul_comm]
  congr 1
  omega
theorem binom_rise {n j : Nat} (h : 2 * (j + 1) ≤ n + 1) (hj : j < n) : binom n j ≤ binom n (j + 1) := by
  have h1 := binom_up hj
  have h2 : binom n j * (j + 1) ≤ binom n j * (n - j) := Nat.mul_le_mul_left _ (by omega)
  rw [← h1] at h2
  exact Nat.le_of_mul_le_mul_right h2 (Nat.succ_pos j)
theorem binom_below {n L : Nat} (hL : 2 * L ≤ n) : ∀ d j, j + d = L → binom n j ≤ binom n L := by
  intro d
  induction d with
  | zero => intro j h; have : j = L := by omega
            subst this; exact Nat.le_refl _
  | succ d ih => intro j h; exact Nat.le_trans (binom_rise (by omega) (by omega)) (ih (j + 1) (by omega))
theorem binom_pos {n : Nat} : ∀ {k : Nat}, k ≤ n → 0 < binom n k := by
  induction n with
  | zero => intro k h; have : k = 0 := by omega
            subst this; decide
  | succ n ih =>
    intro k h
    match k, h with
    | 0, _ => rw [binom_zero]; decide
    | k + 1, h => rw [binom_succ]; have := ih (k := k) (by omega); omega

set_option maxRecDepth 100000 in
set_option maxHeartbeats 1600000 in
theorem refZero_any (w : World) : Calls Tryz.prog 77 #[] w fun e w' => ∃ ds, Hid (ds = [(1 : Int)]) ∧ NumAns w false [] ds e w' := by
  have R := rvar_new w
  have g := below_alloc w (.cells #[.bool false, .slice none 0 0, .slice none 0 0] 25)
  go_enter Tryz.func77, Tryz.ntmps77
  go_wp2_with fail
  generalize hA : w.alloc (.cells #[.bool false, .slice none 0 0, .slice none 0 0] 25) = v at *
  clear hA
  refine (refOne_any _).mono ?_
  rintro e wa ⟨ds, a, c, HD, rfl, od, ka⟩
  have R2 := R.below ka
  have q0 := R2.box.c0
  have q1 := R2.box.c1
  have q2 := R2.box.c2
  have p0 := R2.box.f0
  have p1 := R2.box.f1
  have p2 := R2.box.f2
  go_wp2
  have hR3 := R2.box.set (.bool false) (.slice none 0 0) (.slice a ds.length c)
  have r0 := hR3.c0
  have r1 := hR3.c1
  have r2 := hR3.c2
  refine bodyPost_ret (v := .agg #[.bool false, .slice none 0 0, .slice a ds.length c]) (by simp [results, Tryz.results77, go_sem, r0, r1, r2]) rfl ?_
  exact ⟨ds, HD, Below.set3 (g.trans (ka.mono g.size)) (Nat.le_refl _) _ _ _, none, 0, a, c, rfl, ⟨lim_nil, World.ownsRow_nil _ _ _ _⟩, (Own.set3 od R.lt _ _ _).mono g.size⟩

section
variable {w : World} {bx cy : Bool} {a1 a2 a3 a4 : Option Addr} {c1 c2 c3 c4 : Nat} {xn xd yn yd : List Int}
set_option maxRecDepth 100000 in
set_option maxHeartbeats 32000000 in
theorem refBinomial_rat (h1 : Rd w.heap.size w (.slice a1 xn.length c1) xn) (h2 : Rd w.heap.size w (.slice a2 xd.length c2) xd) (h3 : Rd w.heap.size w (.slice a3 yn.length c3) yn) (h4 : Rd w.heap.size w (.slice a4 yd.length c4) yd) :
    Calls Tryz.prog 52 #[.agg #[.bool bx, .slice a1 xn.length c1, .slice a2 xd.length c2], .agg #[.bool cy, .slice a3 yn.length c3, .slice a4 yd.length c4]] w fun e w' => ∃ c ns ds err, Hid (CountSpec (RightP bx xn xd ∧ RightP cy yn yd) (IsCount bx xd ∧ IsCount cy yd) (binom (val yn).toNat (val xn).toNat) c ns ds err) ∧ RAns w c ns ds err e w' := by
  obtain ⟨X, Y, R, g⟩ := in2_r (bx := bx) (cy := cy) w h1 h2 h3 h4
  have sr : w.heap.size ≤ w.heap.size + 1 + 1 := by omega
  have nx : w.heap.size ≠ w.heap.size + 1 + 1 := by omega
  have ny : w.heap.size + 1 ≠ w.heap.size + 1 + 1 := by omega
  clear h1 h2 h3 h4
  go_enter Tryz.func52, Tryz.ntmps52
  obtain ⟨X0, X1, X2⟩ := X.cells
  go_wp2_with fail
  clear X0 X1 X2
  generalize hA : ((w.alloc (.cells #[.bool bx, .slice a1 xn.length c1, .slice a2 xd.length c2] 25)).alloc (.cells #[.bool cy, .slice a3 yn.length c3, .slice a4 yd.length c4] 25)).alloc (.cells #[.bool false, .slice none 0 0, .slice none 0 0] 25) = v at *
  clear hA
  refine (refRight_rat X.rn X.rd).mono ?_
  rintro e wa ⟨⟨r, rfl, hr⟩, ka⟩
  replace X := X.below ka
  replace Y := Y.below ka
  replace R := R.below ka
  replace g := g.trans (ka.mono g.size)
  clear ka
  cases r with
  | false =>
    have HP : Hid (¬ RightP bx xn xd) := fun h => by have := hr.2 h; cases this
    clear hr
    have q0 := R.box.c0
    have q1 := R.box.c1
    have q2 := R.box.c2
    have p0 := R.box.f0
    have p1 := R.box.f1
    have p2 := R.box.f2
    go_wp2
    have hR3 := R.box.set (.bool false) (.slice none 0 0) (.slice none 0 0)
    have r0 := hR3.c0
    have r1 := hR3.c1
    have r2 := hR3.c2
    refine bodyPost_ret (v := .tuple #[.agg #[.bool false, .slice none 0 0, .slice none 0 0], .int .i64 22]) (by simp [results, Tryz.results52, go_sem, r0, r1, r2]) rfl ?_
    exact ⟨false, [], [], 22, Or.inl ⟨fun h => HP.out h.1, rfl, rfl, rfl, rfl⟩, Below.set3 g sr _ _ _, none, 0, none, 0, rfl, nil_rd _, nil_rd _⟩
  | true =>
    have hx : Hid (RightP bx xn xd) := hr.1 rfl
    clear hr
    obtain ⟨Y0, Y1, Y2⟩ := Y.cells
    go_wp2_with fail
    clear Y0 Y1 Y2
    refine (refRight_rat Y.rn Y.rd).mono ?_
    rintro e wb ⟨⟨r, rfl, hr⟩, kb⟩
    replace X := X.below kb
    replace Y := Y.below kb
    replace R := R.below kb
    replace g := g.trans (kb.mono g.size)
    clear kb
    cases r with
    | false =>
      have HP : Hid (¬ RightP cy yn yd) := fun h => by have := hr.2 h; cases this
      clear hr
      have q0 := R.box.c0
      have q1 := R.box.c1
      have q2 := R.box.c2
      have p0 := R.box.f0
      have p1 := R.box.f1
      have p2 := R.box.f2
      go_wp2
      have hR3 := R.box.set (.bool false) (.slice none 0 0) (.slice none 0 0)
      have r0 := hR3.c0
      have r1 := hR3.c1
      have r2 := hR3.c2
      refine bodyPost_ret (v := .tuple #[.agg #[.bool false, .slice none 0 0, .slice none 0 0], .int .i64 22]) (by simp [results, Tryz.results52, go_sem, r0, r1, r2]) rfl ?_
      exact ⟨false, [], [], 22, Or.inl ⟨fun h => HP.out h.2, rfl, rfl, rfl, rfl⟩, Below.set3 g sr _ _ _, none, 0, none, 0, rfl, nil_rd _, nil_rd _⟩
    | true =>
      have hy : Hid (RightP cy yn yd) := hr.1 rfl
      clear hr
      have l1 := hx.out.1
      have l2 := hx.out.2.1
      have l3 := hy.out.1
      have l4 := hy.out.2.1
      obtain ⟨X0, X1, X2⟩ := X.cells
      obtain ⟨Y0, Y1, Y2⟩ := Y.cells
      go_wp2_with fail
      clear X0 X1 X2 Y0 Y1 Y2
      refine (refWhole_any X.rn X.rd hx).mono ?_
      rintro e wd ⟨⟨r, rfl, hr⟩, kd⟩
      replace X := X.below kd
      replace Y := Y.below kd
      replace R := R.below kd
      replace g := g.trans (kd.mono g.size)
      clear kd
      cases r with
      | false =>
        have HC : Hid (¬ IsCount bx xd) := fun h => by have := hr.2 h; cases this
        clear hr
        have q0 := R.box.c0
        have q1 := R.box.c1
        have q2 := R.box.c2
        have p0 := R.box.f0
        have p1 := R.box.f1
        have p2 := R.box.f2
        go_wp2
        have hR3 := R.box.set (.bool false) (.slice none 0 0) (.slice none 0 0)
        have r0 := hR3.c0
        have r1 := hR3.c1
        have r2 := hR3.c2
        refine bodyPost_ret (v := .tuple #[.agg #[.bool false, .slice none 0 0, .slice none 0 0], .int .i64 3]) (by simp [results, Tryz.results52, go_sem, r0, r1, r2]) rfl ?_
        exact ⟨false, [], [], 3, Or.inr (Or.inl ⟨⟨hx.out, hy.out⟩, fun h => HC.out h.1, rfl, rfl, rfl, rfl⟩), Below.set3 g sr _ _ _, none, 0, none, 0, rfl, nil_rd _, nil_rd _⟩
      | true =>
        have HC1 : Hid (IsCount bx xd) := hr.1 rfl
        clear hr
        obtain ⟨X0, X1, X2⟩ := X.cells
        obtain ⟨Y0, Y1, Y2⟩ := Y.cells
        go_wp2_with fail
        clear X0 X1 X2 Y0 Y1 Y2
        refine (refWhole_any Y.rn Y.rd hy).mono ?_
        rintro e we ⟨⟨r, rfl, hr⟩, ke⟩
        replace X := X.below ke
        replace Y := Y.below ke
        replace R := R.below ke
        replace g := g.trans (ke.mono g.size)
        clear ke
        cases r with
        | false =>
          have HC : Hid (¬ IsCount cy yd) := fun h => by have := hr.2 h; cases this
          clear hr
          have q0 := R.box.c0
          have q1 := R.box.c1
          have q2 := R.box.c2
          have p0 := R.box.f0
          have p1 := R.box.f1
          have p2 := R.box.f2
          go_wp2
          have hR3 := R.box.set (.bool false) (.slice none 0 0) (.slice none 0 0)
          have r0 := hR3.c0
          have r1 := hR3.c1
          have r2 := hR3.c2
          refine bodyPost_ret (v := .tuple #[.agg #[.bool false, .slice none 0 0, .slice none 0 0], .int .i64 3]) (by simp [results, Tryz.results52, go_sem, r0, r1, r2]) rfl ?_
          exact ⟨false, [], [], 3, Or.inr (Or.inl ⟨⟨hx.out, hy.out⟩, fun h => HC.out h.2, rfl, rfl, rfl, rfl⟩), Below.set3 g sr _ _ _, none, 0, none, 0, rfl, nil_rd _, nil_rd _⟩
        | true =>
          have HCC : Hid (IsCount bx xd ∧ IsCount cy yd) := ⟨HC1.out, hr.1 rfl⟩
          clear hr HC1
          obtain ⟨K, HKn⟩ : ∃ K : Nat, Hid (K = (val xn).toNat ∧ val xn = (K : Int)) := ⟨(val xn).toNat, rfl, by have := (right_pos hx.out).2; omega⟩
          obtain ⟨N, HNn⟩ : ∃ N : Nat, Hid (N = (val yn).toNat ∧ val yn = (N : Int)) := ⟨(val yn).toNat, rfl, by have := (right_pos hy.out).2; omega⟩
          obtain ⟨X0, X1, X2⟩ := X.cells
          obtain ⟨Y0, Y1, Y2⟩ := Y.cells
          go_wp2_with fail
          clear X0 X1 X2 Y0 Y1 Y2
          refine (refMinus_any Y.rn (Nat.le_refl _) X.rn (Nat.le_refl _) (by omega) (by omega)).mono ?_
          rintro e wf ⟨kf, hm⟩
          replace X := X.below kf
          replace Y := Y.below kf
          replace R := R.below kf
          replace g := g.trans (kf.mono g.size)
          by_cases hlt : N < K
          · rw [if_pos (by rw [HNn.out.2, HKn.out.2]; omega)] at hm
            subst hm
            go_wp2_with fail
            refine (refZero_any _).mono ?_
            rintro e wz ⟨ds, HD, kz, x5, y5, x6, y6, rfl, on, od⟩
            have R9 := R
            replace X := X.below kz
            replace Y := Y.below kz
            replace R := R.below kz
            replace g := g.trans (kz.mono g.size)
            have q0 := R.box.c0
            have q1 := R.box.c1
            have q2 := R.box.c2
            have p0 := R.box.f0
            have p1 := R.box.f1
            have p2 := R.box.f2
            go_wp2
            have hR3 := R.box.set (.bool false) (.slice x5 0 y5) (.slice x6 ds.length y6)
            have r0 := hR3.c0
            have r1 := hR3.c1
            have r2 := hR3.c2
            refine bodyPost_ret (v := .tuple #[.agg #[.bool false, .slice x5 0 y5, .slice x6 ds.length y6], .int .i64 0]) (by simp [results, Tryz.results52, go_sem, r0, r1, r2]) rfl ?_
            have hb0 := binom_lt hlt
            exact ⟨false, [], ds, 0, Or.inr (Or.inr (Or.inr ⟨⟨hx.out, hy.out⟩, HCC.out, by rw [← HNn.out.1, ← HKn.out.1, hb0]; exact pw_pos 32, rfl, rfl, ⟨lim_nil, Or.inl rfl⟩, by rw [← HNn.out.1, ← HKn.out.1, hb0]; rfl, HD.out⟩)), Below.set3 g sr _ _ _, x5, y5, x6, y6, rfl, (Own.set3 on R9.lt _ _ _).rd, (Own.set3 od R9.lt _ _ _).rd⟩
          · rw [if_neg (by rw [HNn.out.2, HKn.out.2]; omega)] at hm
            obtain ⟨rs, ar, cr, crs, vr, rfl, orr⟩ := hm
            have HRr : Hid (val rs = ((N - K : Nat) : Int)) := by unfold Hid; rw [vr, HNn.out.2, HKn.out.2]; omega
            clear vr
            have lrr : rs.length ≤ 32 := by
              rw [can_len_pw crs, HRr.out]
              have h5 := (can_len_pw hy.out.2.2.1 32).1 l3
              rw [HNn.out.2] at h5
              omega
            have rr := orr.rd
            obtain ⟨X0, X1, X2⟩ := X.cells
            obtain ⟨Y0, Y1, Y2⟩ := Y.cells
            go_wp2_with fail
            clear X0 X1 X2 Y0 Y1 Y2
            refine (refCompare_rd rr X.rn (Nat.le_refl _) (by omega) (by omega)).mono ?_
            rintro e wg ⟨rfl, kg⟩
            replace rr := (rr.below kg).mono kg.size
            replace X := X.below kg
            replace Y := Y.below kg
            replace R := R.below kg
            replace g := g.trans (kg.mono g.size)
            rw [HRr.out, HKn.out.2]
            rcases Int.lt_trichotomy ((N - K : Nat) : Int) (K : Int) with hc | hc | hc
            · rw [cmpI_lt hc]
              obtain ⟨L, rfl⟩ : ∃ L, L = N - K := ⟨_, rfl⟩
              have HLv : Hid (val rs = ((N - K : Nat) : Int)) := HRr
              have HLc : Hid (can rs) := crs
              have HLL : Hid (2 * (N - K) ≤ N ∧ binom N (N - K) = binom N K) := ⟨by omega, binom_sym N (N - K) K (by omega)⟩
              have LS := rr
              generalize hLe : N - K = L at *
              clear hc hLe
              have hcond : 2 * L ≤ N := HLL.out.1
              have l9 : rs.length ≤ 32 := by rw [can_len_pw HLc.out]; rw [HLv.out]; have h5 := (can_len_pw hy.out.2.2.1 32).1 l3; rw [HNn.out.2] at h5; omega
              obtain ⟨Y0, Y1, Y2⟩ := Y.cells
              go_wp2_with fail
              clear Y0 Y1 Y2
              refine (refOne_any _).mono ?_
              rintro e wq ⟨t0, p1, q1, HS0, rfl, os0, kq⟩
              replace LS := (LS.below kq).mono kq.size
              replace X := X.below kq
              replace Y := Y.below kq
              replace R := R.below kq
              replace g := g.trans (kq.mono g.size)
              clear kq
              have c0 : Hid (can t0 ∧ t0.length ≤ 32 ∧ val t0 = 1) := by
                unfold Hid; rw [HS0.out]; exact ⟨can_one, by simp, one_val⟩
              have rs0 := os0.rd
              obtain ⟨Y0, Y1, Y2⟩ := Y.cells
              go_wp2
              clear Y0 Y1 Y2
              go_loopg [9, 10, 11] L (fun gk cv iv tv wr => ∃ (j : Nat) (cs is ts : List Int) (a : Option Addr) (c : Nat) (a' : Option Addr) (c' : Nat) (a'' : Option Addr) (c'' : Nat), Hid (gk = L - j) ∧ cv = .slice a cs.length c ∧ iv = .slice a' is.length c' ∧ tv = .slice a'' ts.length c'' ∧ j ≤ L ∧ can cs ∧ can is ∧ can ts ∧ Hid (val cs = (binom N j : Int) ∧ val is = (j : Int) ∧ val ts = (N : Int) - (j : Int)) ∧ cs.length ≤ 32 ∧ is.length ≤ 32 ∧ ts.length ≤ 32 ∧ Rd wr.heap.size wr (.slice a cs.length c) cs ∧ Rd wr.heap.size wr (.slice a' is.length c') is ∧ Rd wr.heap.size wr (.slice a'' ts.length c'') ts ∧ Below wq.heap.size wq wr)
              case atStart => exact ⟨0, t0, [], yn, p1, q1, none, 0, a3, c3, rfl, rfl, rfl, rfl, Nat.zero_le _, c0.out.1, ⟨lim_nil, Or.inl rfl⟩, hy.out.2.2.1, ⟨by rw [c0.out.2.2, binom_zero]; rfl, rfl, by rw [HNn.out.2]; omega⟩, c0.out.2.1, by simp, l3, rs0, nil_rd _, Y.rn, Below.refl _ _⟩
              case round =>
                obtain ⟨j, cs, is, ts, a, c, a', c', a'', c'', hgk, rfl, rfl, rfl, hj, hcs, hci, hct, HV, lc, li, lt, rc, ri, rt, tr⟩ := hrel
                have LR := (LS.below tr).mono tr.size
                go_wp2_with fail
                refine (refCompare_rd ri LR (Nat.le_refl _) (by omega) (by omega)).mono ?_
                rintro e w1 ⟨rfl, k1⟩
                have t1 : Below wq.heap.size wq w1 := tr.trans (k1.mono tr.size)
                rw [HV.out.2.1, HLv.out]
                replace rc := (rc.below k1).mono k1.size
                replace ri := (ri.below k1).mono k1.size
                replace rt := (rt.below k1).mono k1.size
                by_cases hlt : j < L
                · rw [cmpI_lt (show (j : Int) < (L : Int) by omega)]
                  go_wp2_with fail
                  refine (refOne_any _).mono ?_
                  rintro e w2 ⟨ds, p7, q7, HD, rfl, od, k2⟩
                  have t2 : Below wq.heap.size wq w2 := t1.trans (k2.mono t1.size)
                  have ld : ds.length ≤ 1 := by rw [HD.out]; exact Nat.le_refl _
                  replace rc := (rc.below k2).mono k2.size
                  replace ri := (ri.below k2).mono k2.size
                  replace rt := (rt.below k2).mono k2.size
                  go_wp2_with fail
                  refine (refAdd_any ri (Nat.le_refl _) od.rd (Nat.le_refl _) (by omega) (by omega)).mono ?_
                  rintro e w3 ⟨us, cu, vu, lu, p4, q4, rfl, ou, k3⟩
                  have t3 : Below wq.heap.size wq w3 := t2.trans (k3.mono t2.size)
                  replace rc := (rc.below k3).mono k3.size
                  replace rt := (rt.below k3).mono k3.size
                  have HU : Hid (val us = (j : Int) + 1 ∧ can us) := ⟨by rw [vu, HV.out.2.1, HD.out, one_val], cu⟩
                  clear vu cu
                  have ru := ou.rd
                  go_wp2_with fail
                  refine (refMul_any rc (Nat.le_refl _) rt (Nat.le_refl _) (by omega) (by omega)).mono ?_
                  rintro e w4 ⟨zs, cz, vz, lz, p5, q5, rfl, oz, k4⟩
                  have t4 : Below wq.heap.size wq w4 := t3.trans (k4.mono t3.size)
                  replace ru := (ru.below k4).mono k4.size
                  replace rt := (rt.below k4).mono k4.size
                  have HZ : Hid (val zs = (binom N (j + 1) : Int) * ((j : Int) + 1)) := by
                    unfold Hid
                    rw [vz, HV.out.1, HV.out.2.2]
                    have h5 := binom_up (n := N) (j := j) (by omega)
                    have h6 : ((binom N (j + 1) * (j + 1) : Nat) : Int) = ((binom N j * (N - j) : Nat) : Int) := by rw [h5]
                    rw [Int.natCast_mul, Int.natCast_mul, Int.natCast_sub (by omega)] at h6
                    exact h6.symm
                  clear vz
                  go_wp2_with fail
                  refine (refDivMod_form oz.rd (Nat.le_refl _) ru (Nat.le_refl _) (by omega) (by omega)).mono ?_
                  rintro e w5 ⟨qs, rs, p6, q6, p8, q8, bq, rfl, oq, or, HQ0, k5⟩
                  have t5 : Below wq.heap.size wq w5 := t4.trans (k5.mono t4.size)
                  replace ru := (ru.below k5).mono k5.size
                  replace rt := (rt.below k5).mono k5.size
                  have HQ : Hid (can qs ∧ val qs = (binom N (j + 1) : Int)) := by
                    rcases HQ0.out with ⟨h5, _⟩ | ⟨_, hb5, cq, cr, hv5, hl5⟩
                    · have := HU.out.1; omega
                    · have h5 := div_unique hv5 (val_bound cr.1).1 hl5
                      have h6 := div_unique (n := val zs) (d := val us) (q := (binom N (j + 1) : Int)) (r := 0) (by rw [HZ.out, HU.out.1, Int.add_zero]) (by omega) (by rw [HU.out.1]; omega)
                      exact ⟨cq, by rw [h5.1, h6.1]⟩
                  clear HQ0
                  have rq := oq.rd
                  go_wp2_with fail
                  refine (refOne_any _).mono ?_
                  rintro e w6 ⟨es, p9, q9, HE, rfl, oe, k6⟩
                  have t6 : Below wq.heap.size wq w6 := t5.trans (k6.mono t5.size)
                  have le1 : es.length ≤ 1 := by rw [HE.out]; exact Nat.le_refl _
                  replace ru := (ru.below k6).mono k6.size
                  replace rt := (rt.below k6).mono k6.size
                  replace rq := (rq.below k6).mono k6.size
                  go_wp2_with fail
                  refine (refMinus_any rt (Nat.le_refl _) oe.rd (Nat.le_refl _) (by omega) (by omega)).mono ?_
                  rintro e w7 ⟨k7, hm⟩
                  rw [if_neg (by rw [HV.out.2.2, HE.out, one_val]; omega)] at hm
                  obtain ⟨ms, p10, q10, cm, vm, rfl, om⟩ := hm
                  have t7 : Below wq.heap.size wq w7 := t6.trans (k7.mono t6.size)
                  replace ru := (ru.below k7).mono k7.size
                  replace rq := (rq.below k7).mono k7.size
                  have HM : Hid (val ms = (N : Int) - ((j + 1 : Nat) : Int)) := by unfold Hid; rw [vm, HV.out.2.2, HE.out, one_val]; omega
                  have lm : ms.length ≤ 32 := by
                    rw [can_len_pw cm, vm]
                    have h5 := (can_len_pw hct 32).1 lt
                    rw [HE.out, one_val]
                    omega
                  clear vm
                  have lu2 : us.length ≤ 32 := by
                    rw [can_len_pw HU.out.2, HU.out.1]
                    have h5 := (can_len_pw HLc.out 32).1 l9
                    rw [HLv.out] at h5
                    omega
                  by_cases hbig : 32 < qs.length
                  · have HB : Great (binom N L) := by
                      constructor
                      have h5 : ¬ val qs < pw 32 := fun h => by have := (can_len_pw HQ.out.1 32).2 h; omega
                      have h6 := binom_below hcond (L - (j + 1)) (j + 1) (by omega)
                      rw [HQ.out.2] at h5
                      omega
                    have R4 := R.below t7
                    have q0 := R4.box.c0
                    have q1' := R4.box.c1
                    have q2' := R4.box.c2
                    have p0 := R4.box.f0
                    have p1' := R4.box.f1
                    have p2' := R4.box.f2
                    go_wp2
                    have hR3 := R4.box.set (.bool false) (.slice none 0 0) (.slice none 0 0)
                    have r0 := hR3.c0
                    have r1 := hR3.c1
                    have r2 := hR3.c2
                    try simp only [Exit.inBlock, Exit.then]
                    refine bodyPost_ret (v := .tuple #[.agg #[.bool false, .slice none 0 0, .slice none 0 0], .int .i64 8]) ?_ rfl ?_
                    · simp [results, Tryz.results52, go_sem, r0, r1, r2]
                    exact ⟨false, [], [], 8, Or.inr (Or.inr (Or.inl ⟨⟨hx.out, hy.out⟩, HCC.out, by rw [← HNn.out.1, ← HKn.out.1, ← HLL.out.2]; exact HB.is, rfl, rfl, rfl, rfl⟩)), Below.set3 (g.trans (t7.mono g.size)) sr _ _ _, none, 0, none, 0, rfl, nil_rd _, nil_rd _⟩
                  · go_wp2
                    go_roundg (L - (j + 1))
                    case rel => exact ⟨j + 1, qs, us, ms, p6, q6, p4, q4, p10, q10, rfl, rfl, rfl, rfl, by omega, HQ.out.1, HU.out.2, cm, ⟨HQ.out.2, by rw [HU.out.1]; rfl, HM.out⟩, by omega, lu2, lm, rq, ru, om.rd, t7⟩
                    case measure => rw [hgk.out]; omega
                · obtain rfl : j = L := by omega
                  rw [cmpI_eq (rfl : (j : Int) = (j : Int))]
                  go_wp2_with fail
                  refine (refOne_any _).mono ?_
                  rintro e w2 ⟨ds, p7, q7, HD, rfl, od, k2⟩
                  have t2 : Below wq.heap.size wq w2 := t1.trans (k2.mono t1.size)
                  have ld : ds.length ≤ 10000 := by rw [HD.out]; simp
                  replace rc := (rc.below k2).mono k2.size
                  go_wp2_with fail
                  refine (refMake_rat rc od.rd (by omega) ld (by rw [HD.out, one_val]; decide)).mono ?_
                  intro e w3 hm6
                  rw [HD.out, one_val, sg_false, HV.out.1] at hm6
                  obtain ⟨bm6, b6, x5, n5, y5, x6, n6, y6, err, rfl, hform⟩ := (RMakes.from' t2 hm6).form
                  have RF := R.below bm6
                  have q0 := RF.box.c0
                  have q1' := RF.box.c1
                  have q2' := RF.box.c2
                  have p0 := RF.box.f0
                  have p1' := RF.box.f1
                  have p2' := RF.box.f2
                  go_wp2
                  have hR3 := RF.box.set (.bool b6) (.slice x5 n5 y5) (.slice x6 n6 y6)
                  have r0 := hR3.c0
                  have r1 := hR3.c1
                  have r2 := hR3.c2
                  try simp only [Exit.inBlock, Exit.then]
                  refine bodyPost_ret (v := .tuple #[.agg #[.bool b6, .slice x5 n5 y5, .slice x6 n6 y6], .int .i64 err]) ?_ rfl ?_
                  · simp [results, Tryz.results52, go_sem, r0, r1, r2]
                  have hfin := rmakes_count (P := RightP bx xn xd ∧ RightP cy yn yd) (C := IsCount bx xd ∧ IsCount cy yd) ⟨hx.out, hy.out⟩ HCC.out (binom_pos (n := N) (k := j) (by omega)) (rform_done g sr R.lt bm6 hform)
                  rw [← HNn.out.1, ← HKn.out.1, ← HLL.out.2]
                  exact hfin
            · rw [cmpI_eq hc]
              obtain ⟨L, hLe⟩ : ∃ L, L = K := ⟨_, rfl⟩
              have HLv : Hid (val xn = (L : Int)) := by unfold Hid; rw [hLe]; exact HKn.out.2
              have HLc : Hid (can xn) := hx.out.2.2.1
              have HLL : Hid (2 * L ≤ N ∧ binom N L = binom N K) := ⟨by omega, by rw [hLe]⟩
              have LS := X.rn
              clear hc hLe
              have hcond : 2 * L ≤ N := HLL.out.1
              have l9 : xn.length ≤ 32 := by rw [can_len_pw HLc.out]; rw [HLv.out]; have h5 := (can_len_pw hy.out.2.2.1 32).1 l3; rw [HNn.out.2] at h5; omega
              obtain ⟨Y0, Y1, Y2⟩ := Y.cells
              go_wp2_with fail
              clear Y0 Y1 Y2
              refine (refOne_any _).mono ?_
              rintro e wq ⟨t0, p1, q1, HS0, rfl, os0, kq⟩
              replace LS := (LS.below kq).mono kq.size
              replace X := X.below kq
              replace Y := Y.below kq
              replace R := R.below kq
              replace g := g.trans (kq.mono g.size)
              clear kq
              have c0 : Hid (can t0 ∧ t0.length ≤ 32 ∧ val t0 = 1) := by
                unfold Hid; rw [HS0.out]; exact ⟨can_one, by simp, one_val⟩
              have rs0 := os0.rd
              obtain ⟨Y0, Y1, Y2⟩ := Y.cells
              go_wp2
              clear Y0 Y1 Y2
              go_loopg [9, 10, 11] L (fun gk cv iv tv wr => ∃ (j : Nat) (cs is ts : List Int) (a : Option Addr) (c : Nat) (a' : Option Addr) (c' : Nat) (a'' : Option Addr) (c'' : Nat), Hid (gk = L - j) ∧ cv = .slice a cs.length c ∧ iv = .slice a' is.length c' ∧ tv = .slice a'' ts.length c'' ∧ j ≤ L ∧ can cs ∧ can is ∧ can ts ∧ Hid (val cs = (binom N j : Int) ∧ val is = (j : Int) ∧ val ts = (N : Int) - (j : Int)) ∧ cs.length ≤ 32 ∧ is.length ≤ 32 ∧ ts.length ≤ 32 ∧ Rd wr.heap.size wr (.slice a cs.length c) cs ∧ Rd wr.heap.size wr (.slice a' is.length c') is ∧ Rd wr.heap.size wr (.slice a'' ts.length c'') ts ∧ Below wq.heap.size wq wr)
              case atStart => exact ⟨0, t0, [], yn, p1, q1, none, 0, a3, c3, rfl, rfl, rfl, rfl, Nat.zero_le _, c0.out.1, ⟨lim_nil, Or.inl rfl⟩, hy.out.2.2.1, ⟨by rw [c0.out.2.2, binom_zero]; rfl, rfl, by rw [HNn.out.2]; omega⟩, c0.out.2.1, by simp, l3, rs0, nil_rd _, Y.rn, Below.refl _ _⟩
              case round =>
                obtain ⟨j, cs, is, ts, a, c, a', c', a'', c'', hgk, rfl, rfl, rfl, hj, hcs, hci, hct, HV, lc, li, lt, rc, ri, rt, tr⟩ := hrel
                have LR := (LS.below tr).mono tr.size
                go_wp2_with fail
                refine (refCompare_rd ri LR (Nat.le_refl _) (by omega) (by omega)).mono ?_
                rintro e w1 ⟨rfl, k1⟩
                have t1 : Below wq.heap.size wq w1 := tr.trans (k1.mono tr.size)
                rw [HV.out.2.1, HLv.out]
                replace rc := (rc.below k1).mono k1.size
                replace ri := (ri.below k1).mono k1.size
                replace rt := (rt.below k1).mono k1.size
                by_cases hlt : j < L
                · rw [cmpI_lt (show (j : Int) < (L : Int) by omega)]
                  go_wp2_with fail
                  refine (refOne_any _).mono ?_
                  rintro e w2 ⟨ds, p7, q7, HD, rfl, od, k2⟩
                  have t2 : Below wq.heap.size wq w2 := t1.trans (k2.mono t1.size)
                  have ld : ds.length ≤ 1 := by rw [HD.out]; exact Nat.le_refl _
                  replace rc := (rc.below k2).mono k2.size
                  replace ri := (ri.below k2).mono k2.size
                  replace rt := (rt.below k2).mono k2.size
                  go_wp2_with fail
                  refine (refAdd_any ri (Nat.le_refl _) od.rd (Nat.le_refl _) (by omega) (by omega)).mono ?_
                  rintro e w3 ⟨us, cu, vu, lu, p4, q4, rfl, ou, k3⟩
                  have t3 : Below wq.heap.size wq w3 := t2.trans (k3.mono t2.size)
                  replace rc := (rc.below k3).mono k3.size
                  replace rt := (rt.below k3).mono k3.size
                  have HU : Hid (val us = (j : Int) + 1 ∧ can us) := ⟨by rw [vu, HV.out.2.1, HD.out, one_val], cu⟩
                  clear vu cu
                  have ru := ou.rd
                  go_wp2_with fail
                  refine (refMul_any rc (Nat.le_refl _) rt (Nat.le_refl _) (by omega) (by omega)).mono ?_
                  rintro e w4 ⟨zs, cz, vz, lz, p5, q5, rfl, oz, k4⟩
                  have t4 : Below wq.heap.size wq w4 := t3.trans (k4.mono t3.size)
                  replace ru := (ru.below k4).mono k4.size
                  replace rt := (rt.below k4).mono k4.size
                  have HZ : Hid (val zs = (binom N (j + 1) : Int) * ((j : Int) + 1)) := by
                    unfold Hid
                    rw [vz, HV.out.1, HV.out.2.2]
                    have h5 := binom_up (n := N) (j := j) (by omega)
                    have h6 : ((binom N (j + 1) * (j + 1) : Nat) : Int) = ((binom N j * (N - j) : Nat) : Int) := by rw [h5]
                    rw [Int.natCast_mul, Int.natCast_mul, Int.natCast_sub (by omega)] at h6
                    exact h6.symm
                  clear vz
                  go_wp2_with fail
                  refine (refDivMod_form oz.rd (Nat.le_refl _) ru (Nat.le_refl _) (by omega) (by omega)).mono ?_
                  rintro e w5 ⟨qs, rs, p6, q6, p8, q8, bq, rfl, oq, or, HQ0, k5⟩
                  have t5 : Below wq.heap.size wq w5 := t4.trans (k5.mono t4.size)
                  replace ru := (ru.below k5).mono k5.size
                  replace rt := (rt.below k5).mono k5.size
                  have HQ : Hid (can qs ∧ val qs = (binom N (j + 1) : Int)) := by
                    rcases HQ0.out with ⟨h5, _⟩ | ⟨_, hb5, cq, cr, hv5, hl5⟩
                    · have := HU.out.1; omega
                    · have h5 := div_unique hv5 (val_bound cr.1).1 hl5
                      have h6 := div_unique (n := val zs) (d := val us) (q := (binom N (j + 1) : Int)) (r := 0) (by rw [HZ.out, HU.out.1, Int.add_zero]) (by omega) (by rw [HU.out.1]; omega)
                      exact ⟨cq, by rw [h5.1, h6.1]⟩
                  clear HQ0
                  have rq := oq.rd
                  go_wp2_with fail
                  refine (refOne_any _).mono ?_
                  rintro e w6 ⟨es, p9, q9, HE, rfl, oe, k6⟩
                  have t6 : Below wq.heap.size wq w6 := t5.trans (k6.mono t5.size)
                  have le1 : es.length ≤ 1 := by rw [HE.out]; exact Nat.le_refl _
                  replace ru := (ru.below k6).mono k6.size
                  replace rt := (rt.below k6).mono k6.size
                  replace rq := (rq.below k6).mono k6.size
                  go_wp2_with fail
                  refine (refMinus_any rt (Nat.le_refl _) oe.rd (Nat.le_refl _) (by omega) (by omega)).mono ?_
                  rintro e w7 ⟨k7, hm⟩
                  rw [if_neg (by rw [HV.out.2.2, HE.out, one_val]; omega)] at hm
                  obtain ⟨ms, p10, q10, cm, vm, rfl, om⟩ := hm
                  have t7 : Below wq.heap.size wq w7 := t6.trans (k7.mono t6.size)
                  replace ru := (ru.below k7).mono k7.size
                  replace rq := (rq.below k7).mono k7.size
                  have HM : Hid (val ms = (N : Int) - ((j + 1 : Nat) : Int)) := by unfold Hid; rw [vm, HV.out.2.2, HE.out, one_val]; omega
                  have lm : ms.length ≤ 32 := by
                    rw [can_len_pw cm, vm]
                    have h5 := (can_len_pw hct 32).1 lt
                    rw [HE.out, one_val]
                    omega
                  clear vm
                  have lu2 : us.length ≤ 32 := by
                    rw [can_len_pw HU.out.2, HU.out.1]
                    have h5 := (can_len_pw HLc.out 32).1 l9
                    rw [HLv.out] at h5
                    omega
                  by_cases hbig : 32 < qs.length
                  · have HB : Great (binom N L) := by
                      constructor
                      have h5 : ¬ val qs < pw 32 := fun h => by have := (can_len_pw HQ.out.1 32).2 h; omega
                      have h6 := binom_below hcond (L - (j + 1)) (j + 1) (by omega)
                      rw [HQ.out.2] at h5
                      omega
                    have R4 := R.below t7
                    have q0 := R4.box.c0
                    have q1' := R4.box.c1
                    have q2' := R4.box.c2
                    have p0 := R4.box.f0
                    have p1' := R4.box.f1
                    have p2' := R4.box.f2
                    go_wp2
                    have hR3 := R4.box.set (.bool false) (.slice none 0 0) (.slice none 0 0)
                    have r0 := hR3.c0
                    have r1 := hR3.c1
                    have r2 := hR3.c2
                    try simp only [Exit.inBlock, Exit.then]
                    refine bodyPost_ret (v := .tuple #[.agg #[.bool false, .slice none 0 0, .slice none 0 0], .int .i64 8]) ?_ rfl ?_
                    · simp [results, Tryz.results52, go_sem, r0, r1, r2]
                    exact ⟨false, [], [], 8, Or.inr (Or.inr (Or.inl ⟨⟨hx.out, hy.out⟩, HCC.out, by rw [← HNn.out.1, ← HKn.out.1, ← HLL.out.2]; exact HB.is, rfl, rfl, rfl, rfl⟩)), Below.set3 (g.trans (t7.mono g.size)) sr _ _ _, none, 0, none, 0, rfl, nil_rd _, nil_rd _⟩
                  · go_wp2
                    go_roundg (L - (j + 1))
                    case rel => exact ⟨j + 1, qs, us, ms, p6, q6, p4, q4, p10, q10, rfl, rfl, rfl, rfl, by omega, HQ.out.1, HU.out.2, cm, ⟨HQ.out.2, by rw [HU.out.1]; rfl, HM.out⟩, by omega, lu2, lm, rq, ru, om.rd, t7⟩
                    case measure => rw [hgk.out]; omega
                · obtain rfl : j = L := by omega
                  rw [cmpI_eq (rfl : (j : Int) = (j : Int))]
                  go_wp2_with fail
                  refine (refOne_any _).mono ?_
                  rintro e w2 ⟨ds, p7, q7, HD, rfl, od, k2⟩
                  have t2 : Below wq.heap.size wq w2 := t1.trans (k2.mono t1.size)
                  have ld : ds.length ≤ 10000 := by rw [HD.out]; simp
                  replace rc := (rc.below k2).mono k2.size
                  go_wp2_with fail
                  refine (refMake_rat rc od.rd (by omega) ld (by rw [HD.out, one_val]; decide)).mono ?_
                  intro e w3 hm6
                  rw [HD.out, one_val, sg_false, HV.out.1] at hm6
                  obtain ⟨bm6, b6, x5, n5, y5, x6, n6, y6, err, rfl, hform⟩ := (RMakes.from' t2 hm6).form
                  have RF := R.below bm6
                  have q0 := RF.box.c0
                  have q1' := RF.box.c1
                  have q2' := RF.box.c2
                  have p0 := RF.box.f0
                  have p1' := RF.box.f1
                  have p2' := RF.box.f2
                  go_wp2
                  have hR3 := RF.box.set (.bool b6) (.slice x5 n5 y5) (.slice x6 n6 y6)
                  have r0 := hR3.c0
                  have r1 := hR3.c1
                  have r2 := hR3.c2
                  try simp only [Exit.inBlock, Exit.then]
                  refine bodyPost_ret (v := .tuple #[.agg #[.bool b6, .slice x5 n5 y5, .slice x6 n6 y6], .int .i64 err]) ?_ rfl ?_
                  · simp [results, Tryz.results52, go_sem, r0, r1, r2]
                  have hfin := rmakes_count (P := RightP bx xn xd ∧ RightP cy yn yd) (C := IsCount bx xd ∧ IsCount cy yd) ⟨hx.out, hy.out⟩ HCC.out (binom_pos (n := N) (k := j) (by omega)) (rform_done g sr R.lt bm6 hform)
                  rw [← HNn.out.1, ← HKn.out.1, ← HLL.out.2]
                  exact hfin
            · rw [cmpI_gt hc]
              obtain ⟨L, hLe⟩ : ∃ L, L = K := ⟨_, rfl⟩
              have HLv : Hid (val xn = (L : Int)) := by unfold Hid; rw [hLe]; exact HKn.out.2
              have HLc : Hid (can xn) := hx.out.2.2.1
              have HLL : Hid (2 * L ≤ N ∧ binom N L = binom N K) := ⟨by omega, by rw [hLe]⟩
              have LS := X.rn
              clear hc hLe
              have hcond : 2 * L ≤ N := HLL.out.1
              have l9 : xn.length ≤ 32 := by rw [can_len_pw HLc.out]; rw [HLv.out]; have h5 := (can_len_pw hy.out.2.2.1 32).1 l3; rw [HNn.out.2] at h5; omega
              obtain ⟨Y0, Y1, Y2⟩ := Y.cells
              go_wp2_with fail
              clear Y0 Y1 Y2
              refine (refOne_any _).mono ?_
              rintro e wq ⟨t0, p1, q1, HS0, rfl, os0, kq⟩
              replace LS := (LS.below kq).mono kq.size
              replace X := X.below kq
              replace Y := Y.below kq
              replace R := R.below kq
              replace g := g.trans (kq.mono g.size)
              clear kq
              have c0 : Hid (can t0 ∧ t0.length ≤ 32 ∧ val t0 = 1) := by
                unfold Hid; rw [HS0.out]; exact ⟨can_one, by simp, one_val⟩
              have rs0 := os0.rd
              obtain ⟨Y0, Y1, Y2⟩ := Y.cells
              go_wp2
              clear Y0 Y1 Y2
              go_loopg [9, 10, 11] L (fun gk cv iv tv wr => ∃ (j : Nat) (cs is ts : List Int) (a : Option Addr) (c : Nat) (a' : Option Addr) (c' : Nat) (a'' : Option Addr) (c'' : Nat), Hid (gk = L - j) ∧ cv = .slice a cs.length c ∧ iv = .slice a' is.length c' ∧ tv = .slice a'' ts.length c'' ∧ j ≤ L ∧ can cs ∧ can is ∧ can ts ∧ Hid (val cs = (binom N j : Int) ∧ val is = (j : Int) ∧ val ts = (N : Int) - (j : Int)) ∧ cs.length ≤ 32 ∧ is.length ≤ 32 ∧ ts.length ≤ 32 ∧ Rd wr.heap.size wr (.slice a cs.length c) cs ∧ Rd wr.heap.size wr (.slice a' is.length c') is ∧ Rd wr.heap.size wr (.slice a'' ts.length c'') ts ∧ Below wq.heap.size wq wr)
              case atStart => exact ⟨0, t0, [], yn, p1, q1, none, 0, a3, c3, rfl, rfl, rfl, rfl, Nat.zero_le _, c0.out.1, ⟨lim_nil, Or.inl rfl⟩, hy.out.2.2.1, ⟨by rw [c0.out.2.2, binom_zero]; rfl, rfl, by rw [HNn.out.2]; omega⟩, c0.out.2.1, by simp, l3, rs0, nil_rd _, Y.rn, Below.refl _ _⟩
              case round =>
                obtain ⟨j, cs, is, ts, a, c, a', c', a'', c'', hgk, rfl, rfl, rfl, hj, hcs, hci, hct, HV, lc, li, lt, rc, ri, rt, tr⟩ := hrel
                have LR := (LS.below tr).mono tr.size
                go_wp2_with fail
                refine (refCompare_rd ri LR (Nat.le_refl _) (by omega) (by omega)).mono ?_
                rintro e w1 ⟨rfl, k1⟩
                have t1 : Below wq.heap.size wq w1 := tr.trans (k1.mono tr.size)
                rw [HV.out.2.1, HLv.out]
                replace rc := (rc.below k1).mono k1.size
                replace ri := (ri.below k1).mono k1.size
                replace rt := (rt.below k1).mono k1.size
                by_cases hlt : j < L
                · rw [cmpI_lt (show (j : Int) < (L : Int) by omega)]
                  go_wp2_with fail
                  refine (refOne_any _).mono ?_
                  rintro e w2 ⟨ds, p7, q7, HD, rfl, od, k2⟩
                  have t2 : Below wq.heap.size wq w2 := t1.trans (k2.mono t1.size)
                  have ld : ds.length ≤ 1 := by rw [HD.out]; exact Nat.le_refl _
                  replace rc := (rc.below k2).mono k2.size
                  replace ri := (ri.below k2).mono k2.size
                  replace rt := (rt.below k2).mono k2.size
                  go_wp2_with fail
                  refine (refAdd_any ri (Nat.le_refl _) od.rd (Nat.le_refl _) (by omega) (by omega)).mono ?_
                  rintro e w3 ⟨us, cu, vu, lu, p4, q4, rfl, ou, k3⟩
                  have t3 : Below wq.heap.size wq w3 := t2.trans (k3.mono t2.size)
                  replace rc := (rc.below k3).mono k3.size
                  replace rt := (rt.below k3).mono k3.size
                  have HU : Hid (val us = (j : Int) + 1 ∧ can us) := ⟨by rw [vu, HV.out.2.1, HD.out, one_val], cu⟩
                  clear vu cu
                  have ru := ou.rd
                  go_wp2_with fail
                  refine (refMul_any rc (Nat.le_refl _) rt (Nat.le_refl _) (by omega) (by omega)).mono ?_
                  rintro e w4 ⟨zs, cz, vz, lz, p5, q5, rfl, oz, k4⟩
                  have t4 : Below wq.heap.size wq w4 := t3.trans (k4.mono t3.size)
                  replace ru := (ru.below k4).mono k4.size
                  replace rt := (rt.below k4).mono k4.size
                  have HZ : Hid (val zs = (binom N (j + 1) : Int) * ((j : Int) + 1)) := by
                    unfold Hid
                    rw [vz, HV.out.1, HV.out.2.2]
                    have h5 := binom_up (n := N) (j := j) (by omega)
                    have h6 : ((binom N (j + 1) * (j + 1) : Nat) : Int) = ((binom N j * (N - j) : Nat) : Int) := by rw [h5]
                    rw [Int.natCast_mul, Int.natCast_mul, Int.natCast_sub (by omega)] at h6
                    exact h6.symm
                  clear vz
                  go_wp2_with fail
                  refine (refDivMod_form oz.rd (Nat.le_refl _) ru (Nat.le_refl _) (by omega) (by omega)).mono ?_
                  rintro e w5 ⟨qs, rs, p6, q6, p8, q8, bq, rfl, oq, or, HQ0, k5⟩
                  have t5 : Below wq.heap.size wq w5 := t4.trans (k5.mono t4.size)
                  replace ru := (ru.below k5).mono k5.size
                  replace rt := (rt.below k5).mono k5.size
                  have HQ : Hid (can qs ∧ val qs = (binom N (j + 1) : Int)) := by
                    rcases HQ0.out with ⟨h5, _⟩ | ⟨_, hb5, cq, cr, hv5, hl5⟩
                    · have := HU.out.1; omega
                    · have h5 := div_unique hv5 (val_bound cr.1).1 hl5
                      have h6 := div_unique (n := val zs) (d := val us) (q := (binom N (j + 1) : Int)) (r := 0) (by rw [HZ.out, HU.out.1, Int.add_zero]) (by omega) (by rw [HU.out.1]; omega)
                      exact ⟨cq, by rw [h5.1, h6.1]⟩
                  clear HQ0
                  have rq := oq.rd
                  go_wp2_with fail
                  refine (refOne_any _).mono ?_
                  rintro e w6 ⟨es, p9, q9, HE, rfl, oe, k6⟩
                  have t6 : Below wq.heap.size wq w6 := t5.trans (k6.mono t5.size)
                  have le1 : es.length ≤ 1 := by rw [HE.out]; exact Nat.le_refl _
                  replace ru := (ru.below k6).mono k6.size
                  replace rt := (rt.below k6).mono k6.size
                  replace rq := (rq.below k6).mono k6.size
                  go_wp2_with fail
                  refine (refMinus_any rt (Nat.le_refl _) oe.rd (Nat.le_refl _) (by omega) (by omega)).mono ?_
                  rintro e w7 ⟨k7, hm⟩
                  rw [if_neg (by rw [HV.out.2.2, HE.out, one_val]; omega)] at hm
                  obtain ⟨ms, p10, q10, cm, vm, rfl, om⟩ := hm
                  have t7 : Below wq.heap.size wq w7 := t6.trans (k7.mono t6.size)
                  replace ru := (ru.below k7).mono k7.size
                  replace rq := (rq.below k7).mono k7.size
                  have HM : Hid (val ms = (N : Int) - ((j + 1 : Nat) : Int)) := by unfold Hid; rw [vm, HV.out.2.2, HE.out, one_val]; omega
                  have lm : ms.length ≤ 32 := by
                    rw [can_len_pw cm, vm]
                    have h5 := (can_len_pw hct 32).1 lt
                    rw [HE.out, one_val]
                    omega
                  clear vm
                  have lu2 : us.length ≤ 32 := by
                    rw [can_len_pw HU.out.2, HU.out.1]
                    have h5 := (can_len_pw HLc.out 32).1 l9
                    rw [HLv.out] at h5
                    omega
                  by_cases hbig : 32 < qs.length
                  · have HB : Great (binom N L) := by
                      constructor
                      have h5 : ¬ val qs < pw 32 := fun h => by have := (can_len_pw HQ.out.1 32).2 h; omega
                      have h6 := binom_below hcond (L - (j + 1)) (j + 1) (by omega)
                      rw [HQ.out.2] at h5
                      omega
                    have R4 := R.below t7
                    have q0 := R4.box.c0
                    have q1' := R4.box.c1
                    have q2' := R4.box.c2
                    have p0 := R4.box.f0
                    have p1' := R4.box.f1
                    have p2' := R4.box.f2
                    go_wp2
                    have hR3 := R4.box.set (.bool false) (.slice none 0 0) (.slice none 0 0)
                    have r0 := hR3.c0
                    have r1 := hR3.c1
                    have r2 := hR3.c2
                    try simp only [Exit.inBlock, Exit.then]
                    refine bodyPost_ret (v := .tuple #[.agg #[.bool false, .slice none 0 0, .slice none 0 0], .int .i64 8]) ?_ rfl ?_
                    · simp [results, Tryz.results52, go_sem, r0, r1, r2]
                    exact ⟨false, [], [], 8, Or.inr (Or.inr (Or.inl ⟨⟨hx.out, hy.out⟩, HCC.out, by rw [← HNn.out.1, ← HKn.out.1, ← HLL.out.2]; exact HB.is, rfl, rfl, rfl, rfl⟩)), Below.set3 (g.trans (t7.mono g.size)) sr _ _ _, none, 0, none, 0, rfl, nil_rd _, nil_rd _⟩
                  · go_wp2
                    go_roundg (L - (j + 1))
                    case rel => exact ⟨j + 1, qs, us, ms, p6, q6, p4, q4, p10, q10, rfl, rfl, rfl, rfl, by omega, HQ.out.1, HU.out.2, cm, ⟨HQ.out.2, by rw [HU.out.1]; rfl, HM.out⟩, by omega, lu2, lm, rq, ru, om.rd, t7⟩
                    case measure => rw [hgk.out]; omega
                · obtain rfl : j = L := by omega
                  rw [cmpI_eq (rfl : (j : Int) = (j : Int))]
                  go_wp2_with fail
                  refine (refOne_any _).mono ?_
                  rintro e w2 ⟨ds, p7, q7, HD, rfl, od, k2⟩
                  have t2 : Below wq.heap.size wq w2 := t1.trans (k2.mono t1.size)
                  have ld : ds.length ≤ 10000 := by rw [HD.out]; simp
                  replace rc := (rc.below k2).mono k2.size
                  go_wp2_with fail
                  refine (refMake_rat rc od.rd (by omega) ld (by rw [HD.out, one_val]; decide)).mono ?_
                  intro e w3 hm6
                  rw [HD.out, one_val, sg_false, HV.out.1] at hm6
                  obtain ⟨bm6, b6, x5, n5, y5, x6, n6, y6, err, rfl, hform⟩ := (RMakes.from' t2 hm6).form
                  have RF := R.below bm6
                  have q0 := RF.box.c0
                  have q1' := RF.box.c1
                  have q2' := RF.box.c2
                  have p0 := RF.box.f0
                  have p1' := RF.box.f1
                  have p2' := RF.box.f2
                  go_wp2
                  have hR3 := RF.box.set (.bool b6) (.slice x5 n5 y5) (.slice x6 n6 y6)
                  have r0 := hR3.c0
                  have r1 := hR3.c1
                  have r2 := hR3.c2
                  try simp only [Exit.inBlock, Exit.then]
                  refine bodyPost_ret (v := .tuple #[.agg #[.bool b6, .slice x5 n5 y5, .slice x6 n6 y6], .int .i64 err]) ?_ rfl ?_
                  · simp [results, Tryz.results52, go_sem, r0, r1, r2]
                  have hfin := rmakes_count (P := RightP bx xn xd ∧ RightP cy yn yd) (C := IsCount bx xd ∧ IsCount cy yd) ⟨hx.out, hy.out⟩ HCC.out (binom_pos (n := N) (k := j) (by omega)) (rform_done g sr R.lt bm6 hform)
                  rw [← HNn.out.1, ← HKn.out.1, ← HLL.out.2]
                  exact hfin
end
end Go.Proofs.YtidbebfendjnlaaGreatDoor

/- The document's Power. -/
namespace Go.Proofs.YtidbebfendjnlaaGreatDoor
set_option linter.unusedVariables false
set_option linter.unusedSimpArgs false
open Go.RowKit
section
variable {w : World} {bx cy : Bool} {a1 a2 a3 a4 : Option Addr} {c1 c2 c3 c4 : Nat} {xn xd yn yd : List Int}
set_option maxRecDepth 100000 in
set_option maxHeartbeats 32000000 in
theorem refPower_rat (h1 : Rd w.heap.size w (.slice a1 xn.length c1) xn) (h2 : Rd w.heap.size w (.slice a2 xd.length c2) xd) (h3 : Rd w.heap.size w (.slice a3 yn.length c3) yn) (h4 : Rd w.heap.size w (.slice a4 yd.length c4) yd) :
    Calls Tryz.prog 48 #[.agg #[.bool bx, .slice a1 xn.length c1, .slice a2 xd.length c2], .agg #[.bool cy, .slice a3 yn.length c3, .slice a4 yd.length c4]] w fun e w' => ∃ c ns ds err, Hid (PowSpec (RightP bx xn xd ∧ RightP cy yn yd) bx xn xd cy yn yd c ns ds err) ∧ RAns w c ns ds err e w' := by
  obtain ⟨X, Y, R, g⟩ := in2_r (bx := bx) (cy := cy) w h1 h2 h3 h4
  have sr : w.heap.size ≤ w.heap.size + 1 + 1 := by omega
  have nx : w.heap.size ≠ w.heap.size + 1 + 1 := by omega
  have ny : w.heap.size + 1 ≠ w.heap.size + 1 + 1 := by omega
  clear h1 h2 h3 h4
  go_enter Tryz.func48, Tryz.ntmps48
  obtain ⟨X0, X1, X2⟩ := X.cells
  go_wp2_with fail
  clear X0 X1 X2
  generalize hA : ((w.alloc (.cells #[.bool bx, .slice a1 xn.length c1, .slice a2 xd.length c2] 25)).alloc (.cells #[.bool cy, .slice a3 yn.length c3, .slice a4 yd.length c4] 25)).alloc (.cells #[.bool false, .slice none 0 0, .slice none 0 0] 25) = v at *
  clear hA
  refine (refRight_rat X.rn X.rd).mono ?_
  rintro e wa ⟨⟨r, rfl, hr⟩, ka⟩
  replace X := X.below ka
  replace Y := Y.below ka
  replace R := R.below ka
  replace g := g.trans (ka.mono g.size)
  clear ka
  cases r with
  | false =>
    have HP : Hid (¬ RightP bx xn xd) := fun h => by have := hr.2 h; cases this
    clear hr
    have q0 := R.box.c0
    have q1 := R.box.c1
    have q2 := R.box.c2
    have p0 := R.box.f0
    have p1 := R.box.f1
    have p2 := R.box.f2
    go_wp2
    have hR3 := R.box.set (.bool false) (.slice none 0 0) (.slice none 0 0)
    have r0 := hR3.c0
    have r1 := hR3.c1
    have r2 := hR3.c2
    refine bodyPost_ret (v := .tuple #[.agg #[.bool false, .slice none 0 0, .slice none 0 0], .int .i64 22]) (by simp [results, Tryz.results48, go_sem, r0, r1, r2]) rfl ?_
    exact ⟨false, [], [], 22, Or.inl ⟨fun h => HP.out h.1, rfl, rfl, rfl, rfl⟩, Below.set3 g sr _ _ _, none, 0, none, 0, rfl, nil_rd _, nil_rd _⟩
  | true =>
    have hx : Hid (RightP bx xn xd) := hr.1 rfl
    clear hr
    obtain ⟨Y0, Y1, Y2⟩ := Y.cells
    go_wp2_with fail
    clear Y0 Y1 Y2
    refine (refRight_rat Y.rn Y.rd).mono ?_
    rintro e wb ⟨⟨r, rfl, hr⟩, kb⟩
    replace X := X.below kb
    replace Y := Y.below kb
    replace R := R.below kb
    replace g := g.trans (kb.mono g.size)
    clear kb
    cases r with
    | false =>
      have HP : Hid (¬ RightP cy yn yd) := fun h => by have := hr.2 h; cases this
      clear hr
      have q0 := R.box.c0
      have q1 := R.box.c1
      have q2 := R.box.c2
      have p0 := R.box.f0
      have p1 := R.box.f1
      have p2 := R.box.f2
      go_wp2
      have hR3 := R.box.set (.bool false) (.slice none 0 0) (.slice none 0 0)
      have r0 := hR3.c0
      have r1 := hR3.c1
      have r2 := hR3.c2
      refine bodyPost_ret (v := .tuple #[.agg #[.bool false, .slice none 0 0, .slice none 0 0], .int .i64 22]) (by simp [results, Tryz.results48, go_sem, r0, r1, r2]) rfl ?_
      exact ⟨false, [], [], 22, Or.inl ⟨fun h => HP.out h.2, rfl, rfl, rfl, rfl⟩, Below.set3 g sr _ _ _, none, 0, none, 0, rfl, nil_rd _, nil_rd _⟩
    | true =>
      have hy : Hid (RightP cy yn yd) := hr.1 rfl
      clear hr
      have l1 := hx.out.1
      have l2 := hx.out.2.1
      have l3 := hy.out.1
      have l4 := hy.out.2.1
      obtain ⟨Y0, Y1, Y2⟩ := Y.cells
      go_wp2_with fail
      clear Y0 Y1 Y2
      refine (refIsInt_rat Y.rn Y.rd).mono ?_
      rintro e wd ⟨⟨r, rfl, hr⟩, kd⟩
      replace X := X.below kd
      replace Y := Y.below kd
      replace R := R.below kd
      replace g := g.trans (kd.mono g.size)
      clear kd
      cases r with
      | false =>
        have HC : Hid (¬ yd = [1]) := fun h => by have := hr.2 ⟨hy.out, h⟩; cases this
        clear hr
        have q0 := R.box.c0
        have q1 := R.box.c1
        have q2 := R.box.c2
        have p0 := R.box.f0
        have p1 := R.box.f1
        have p2 := R.box.f2
        go_wp2
        have hR3 := R.box.set (.bool false) (.slice none 0 0) (.slice none 0 0)
        have r0 := hR3.c0
        have r1 := hR3.c1
        have r2 := hR3.c2
        refine bodyPost_ret (v := .tuple #[.agg #[.bool false, .slice none 0 0, .slice none 0 0], .int .i64 3]) (by simp [results, Tryz.results48, go_sem, r0, r1, r2]) rfl ?_
        exact ⟨false, [], [], 3, Or.inr (Or.inl ⟨⟨hx.out, hy.out⟩, Or.inl HC.out, rfl, rfl, rfl, rfl⟩), Below.set3 g sr _ _ _, none, 0, none, 0, rfl, nil_rd _, nil_rd _⟩
      | true =>
        have HO : Hid (yd = [1]) := (hr.1 rfl).2
        clear hr
        by_cases hy0 : 0 < yn.length
        · have hyb : ((yn.length : Int) == 0) = false := by rw [beq_eq_false_iff_ne]; omega
          by_cases hx0 : 0 < xn.length
          · have hxb : ((xn.length : Int) == 0) = false := by rw [beq_eq_false_iff_ne]; omega
            have HXZ : Hid (¬ (xn.length = 0 ∧ cy = true)) := fun h => by have := h.1; omega
            have HXZ2 : Hid (¬ (0 < yn.length ∧ xn.length = 0 ∧ cy = true)) := fun h => by have := h.2.1; omega
            have HYv : Hid (0 < val yn) := by
              have h5 := can_low hy.out.2.2.1 hy0
              have h6 := pw_pos (yn.length - 1)
              unfold Hid
              omega
            have HXp : Hid (0 < val xn) := by
              have h5 := can_low hx.out.2.2.1 hx0
              have h6 := pw_pos (xn.length - 1)
              unfold Hid
              omega
            obtain ⟨N, HN⟩ : ∃ N : Nat, Hid (N = (val yn).toNat ∧ val yn = (N : Int)) := ⟨(val yn).toNat, rfl, by have := (right_pos hy.out).2; omega⟩
            obtain ⟨pb, po, rfl, hyc, hym⟩ := rd_head Y.rn hy0
            have ho := val_odd hy.out.2.2.1.1
            have hw1 := and_one_u32 (yn.getD 0 0) ho.2.1 ho.2.2
            have hc0 := rd_cell0 Y.rn hy0
            have HOd : Hid ((yn.getD 0 0 % 2 == 1) = decide (N % 2 = 1)) := by
              unfold Hid
              have h5 := HN.out.2
              by_cases h6 : yn.getD 0 0 % 2 = 1
              · rw [beq_iff_eq.2 h6, decide_eq_true (by omega)]
              · rw [beq_eq_false_iff_ne.2 h6, decide_eq_false (by omega)]
            clear ho
            generalize hy00 : yn.getD 0 0 = y00 at *
            clear hy00
            obtain ⟨X0, X1, X2⟩ := X.cells
            obtain ⟨Y0, Y1, Y2⟩ := Y.cells
            go_upto_region 12 with fail
            go_cut [7] from 57 to 61 (fun c wx => c = .bool (bx && (y00 % 2 == 1)) ∧ wx = wd)
            case first =>
              cases bx with
              | false => go_wp2_with fail; go_meet; exact ⟨rfl, rfl⟩
              | true => go_wp2_with fail; go_meet; exact ⟨rfl, rfl⟩
            case rest =>
            obtain ⟨rfl, rfl⟩ := hcut
            have HSG0 : Hid (∀ V : Int, sg bx V ^ N = sg (bx && (y00 % 2 == 1)) (V ^ N)) := fun V => by rw [sg_pow, ← HOd.out]
            obtain ⟨ob, HOB⟩ : ∃ ob, Hid (ob = (bx && (y00 % 2 == 1))) := ⟨_, rfl⟩
            have HSG : Hid (∀ V : Int, sg bx V ^ N = sg ob (V ^ N)) := by rw [HOB.out]; exact HSG0.out
            rw [← HOB.out]
            clear HSG0 HOB HOd hw1
            clear X0 X1 X2 Y0 Y1 Y2
            go_upto_region 13 with fail
            go_cut [71] from 62 to 71 (fun c wx => c = .bool (decide (xn = [1] ∧ xd = [1])) ∧ Below wc.heap.size wc wx)
            case first =>
              have hcells : ∀ {w' : World}, Below wc.heap.size wc w' → w'.cell? ⟨w.heap.size, 0, none⟩ = some (.bool bx) ∧ w'.cell? ⟨w.heap.size, 1, none⟩ = some (.slice a1 xn.length c1) ∧ w'.cell? ⟨w.heap.size, 2, none⟩ = some (.slice a2 xd.length c2) := fun hb => (X.below hb).cells
              obtain ⟨X0, X1, X2⟩ := X.cells
              by_cases hone : xn = [1]
              · have HX1 : Hid (xn = [1]) := hone
                clear hone
                by_cases hone : xd = [1]
                · have HX2 : Hid (xd = [1]) := hone
                  clear hone
                  go_region_held3 (fun w' => w'.cell? ⟨w.heap.size, 0, none⟩ = some (.bool bx) ∧ w'.cell? ⟨w.heap.size, 1, none⟩ = some (.slice a1 xn.length c1) ∧ w'.cell? ⟨w.heap.size, 2, none⟩ = some (.slice a2 xd.length c2))
                    (first | (go_keep; done) | exact tw1 | exact tw2 | exact tw3 | exact tw4)
                    (first
                      | (have j := tw3; go_at_call_of 70 (Value.slice a2 xd.length c2); refine (refSame_any (X.below t3).rd od2.rd).mono ?_; rintro e u4 ⟨rfl, j4⟩; have t4 : Below wc.heap.size wc u4 := t3.trans (j4.mono t3.size); have tw4 := hcells t4; have he2 : decide (xd = ds2) = true := (decide_eq_true (HX2.out.trans HD2.out.symm)); rw [he2])
                      | (have j := tw2; go_at_call 66; refine (refOne_any _).mono ?_; rintro e u3 ⟨ds2, o2, oc2, HD2, rfl, od2, j3⟩; have t3 : Below wc.heap.size wc u3 := t2.trans (j3.mono t2.size); have tw3 := hcells t3)
                      | (have j := tw1; go_at_call_of 70 (Value.slice a1 xn.length c1); refine (refSame_any (X.below t1).rn od1.rd).mono ?_; rintro e u2 ⟨rfl, j2⟩; have t2 : Below wc.heap.size wc u2 := t1.trans (j2.mono t1.size); have tw2 := hcells t2; have he1 : decide (xn = ds1) = true := (decide_eq_true (HX1.out.trans HD1.out.symm)); rw [he1])
                      | (go_at_call 66; refine (refOne_any wc.drew).mono ?_; rintro e u1 ⟨ds1, o1, oc1, HD1, rfl, od1, j1⟩; have t1 : Below wc.heap.size wc u1 := below_undrew (w := wc) (B := wc.heap.size) j1; have tw1 := hcells t1))
                  all_goals
                    go_wp2_with fail
                    go_meet
                    exact ⟨by rw [decide_eq_true ⟨HX1.out, HX2.out⟩], t4⟩
                · have HX2 : Hid (¬ xd = [1]) := hone
                  clear hone
                  go_region_held3 (fun w' => w'.cell? ⟨w.heap.size, 0, none⟩ = some (.bool bx) ∧ w'.cell? ⟨w.heap.size, 1, none⟩ = some (.slice a1 xn.length c1) ∧ w'.cell? ⟨w.heap.size, 2, none⟩ = some (.slice a2 xd.length c2))
                    (first | (go_keep; done) | exact tw1 | exact tw2 | exact tw3 | exact tw4)
                    (first
                      | (have j := tw3; go_at_call_of 70 (Value.slice a2 xd.length c2); refine (refSame_any (X.below t3).rd od2.rd).mono ?_; rintro e u4 ⟨rfl, j4⟩; have t4 : Below wc.heap.size wc u4 := t3.trans (j4.mono t3.size); have tw4 := hcells t4; have he2 : decide (xd = ds2) = false := (decide_eq_false (fun h => HX2.out (h.trans HD2.out))); rw [he2])
                      | (have j := tw2; go_at_call 66; refine (refOne_any _).mono ?_; rintro e u3 ⟨ds2, o2, oc2, HD2, rfl, od2, j3⟩; have t3 : Below wc.heap.size wc u3 := t2.trans (j3.mono t2.size); have tw3 := hcells t3)
                      | (have j := tw1; go_at_call_of 70 (Value.slice a1 xn.length c1); refine (refSame_any (X.below t1).rn od1.rd).mono ?_; rintro e u2 ⟨rfl, j2⟩; have t2 : Below wc.heap.size wc u2 := t1.trans (j2.mono t1.size); have tw2 := hcells t2; have he1 : decide (xn = ds1) = true := (decide_eq_true (HX1.out.trans HD1.out.symm)); rw [he1])
                      | (go_at_call 66; refine (refOne_any wc.drew).mono ?_; rintro e u1 ⟨ds1, o1, oc1, HD1, rfl, od1, j1⟩; have t1 : Below wc.heap.size wc u1 := below_undrew (w := wc) (B := wc.heap.size) j1; have tw1 := hcells t1))
                  all_goals
                    go_wp2_with fail
                    go_meet
                    exact ⟨by rw [decide_eq_false (fun h => HX2.out h.2)], t4⟩
              · have HX1 : Hid (¬ xn = [1]) := hone
                clear hone
                first
                | go_region_with (first
                    | (have j := tw1; go_at_call_of 70 (Value.slice a1 xn.length c1); refine (refSame_any (X.below t1).rn od1.rd).mono ?_; rintro e u2 ⟨rfl, j2⟩; have t2 : Below wc.heap.size wc u2 := t1.trans (j2.mono t1.size); have tw2 := hcells t2; have he1 : decide (xn = ds1) = false := (decide_eq_false (fun h => HX1.out (h.trans HD1.out))); rw [he1])
                    | (go_at_call 66; refine (refOne_any wc.drew).mono ?_; rintro e u1 ⟨ds1, o1, oc1, HD1, rfl, od1, j1⟩; have t1 : Below wc.heap.size wc u1 := below_undrew (w := wc) (B := wc.heap.size) j1; have tw1 := hcells t1))
                | fail
                all_goals
                  go_wp2_with fail
                  go_meet
                  exact ⟨by rw [decide_eq_false (fun h => HX1.out h.1)], t2⟩
            case rest =>
            obtain ⟨rfl, t13⟩ := hcut
            replace X := X.below t13
            replace Y := Y.below t13
            replace R := R.below t13
            replace g := g.trans (t13.mono g.size)
            clear t13
            by_cases hone : xn = [1] ∧ xd = [1]
            · rw [decide_eq_true hone]
              have HX1 : Hid (xn = [1]) := hone.1
              have HX2 : Hid (xd = [1]) := hone.2
              clear hone
              have R1 := R
              go_wp2_with fail
              refine (refOne_any _).mono ?_
              rintro e wo3 ⟨ds3, o3, oc3, HD3, rfl, od3, ko3⟩
              replace X := X.below ko3
              replace Y := Y.below ko3
              replace R := R.below ko3
              replace g := g.trans (ko3.mono g.size)
              have R2 := R
              go_wp2_with fail
              refine (refOne_any _).mono ?_
              rintro e wo4 ⟨ds4, o4, oc4, HD4, rfl, od4, ko4⟩
              replace X := X.below ko4
              replace Y := Y.below ko4
              replace R := R.below ko4
              replace g := g.trans (ko4.mono g.size)
              have od3' := od3.below ko4 (Nat.le_refl _)
              have HS := pow_fin (b := ob) (A := 1) (D := 1) (N := N) (zs := ds3) (us := ds4) (by rw [HD3.out]; exact can_one) (by rw [HD4.out]; exact can_one) (by rw [HD3.out, Int.one_pow]; rfl) (by rw [HD4.out, Int.one_pow]; rfl) (by decide) (by decide) (by decide) (by rw [Int.one_pow]; exact one_lt_pw) (by rw [Int.one_pow]; exact one_lt_pw)
              have HPN : Hid (pnum cy xn xd = 1 ∧ pden cy xn xd = 1) := by
                unfold Hid pnum pden
                rw [HX1.out, HX2.out]
                cases cy <;> exact ⟨rfl, rfl⟩
              have HSS : Hid (RightP ob ds3 ds4 ∧ sg ob (val ds3) = sg ob (1 ^ N)) := HS
              clear HS
              have q0 := R.box.c0
              have q1 := R.box.c1
              have q2 := R.box.c2
              have p0 := R.box.f0
              have p1 := R.box.f1
              have p2 := R.box.f2
              go_wp2
              have hR3 := R.box.set (.bool ob) (.slice o3 ds3.length oc3) (.slice o4 ds4.length oc4)
              have r0 := hR3.c0
              have r1 := hR3.c1
              have r2 := hR3.c2
              refine bodyPost_ret (v := .tuple #[.agg #[.bool ob, .slice o3 ds3.length oc3, .slice o4 ds4.length oc4], .int .i64 0]) (by simp [results, Tryz.results48, go_sem, r0, r1, r2]) rfl ?_
              exact ⟨ob, ds3, ds4, 0, Or.inr (Or.inr (Or.inr ⟨⟨hx.out, hy.out⟩, HO.out, (by first | exact HXZ2.out | (have h5 := HXZ2.out; simpa using h5)), (by rw [HPN.out.1, Int.one_pow]; exact one_lt_pw), (by rw [HPN.out.2, Int.one_pow]; exact one_lt_pw), rfl, HSS.out.1, (by rw [← HN.out.1, HPN.out.1, HSS.out.2]; exact (HSG.out _).symm), (by rw [HPN.out.2, Int.one_pow, HD4.out]; rfl)⟩)), Below.set3 g sr _ _ _, o3, oc3, o4, oc4, rfl, (Own.set3 od3' R1.lt _ _ _).rd, (Own.set3 od4 R2.lt _ _ _).rd⟩
            · rw [decide_eq_false hone]
              have HNE : Hid (¬ (xn = [1] ∧ xd = [1])) := hone
              clear hone
              obtain ⟨X0, X1, X2⟩ := X.cells
              obtain ⟨Y0, Y1, Y2⟩ := Y.cells
              go_wp2_with fail
              clear X0 X1 X2 Y0 Y1 Y2
              refine (refSmall_any Y.rn (by omega)).mono ?_
              rintro e wc ⟨rfl, kc⟩
              replace X := X.below kc
              replace Y := Y.below kc
              replace R := R.below kc
              replace g := g.trans (kc.mono g.size)
              clear kc
              rw [HN.out.2]
              by_cases hs : (N : Int) < 9223372036854775808
              · rw [smallV_lt hs]
                by_cases hbig : 1024 < N
                · have HB : Hid (pw 32 ≤ pnum cy xn xd ^ (val yn).toNat ∨ pw 32 ≤ pden cy xn xd ^ (val yn).toNat) := pow_wide hx.out hx0 HNE.out (by rw [← HN.out.1]; omega)
                  have hd1 : decide ((N : Int) > 1024) = true := decide_eq_true (by omega)
                  have q0 := R.box.c0
                  have q1 := R.box.c1
                  have q2 := R.box.c2
                  have p0 := R.box.f0
                  have p1 := R.box.f1
                  have p2 := R.box.f2
                  go_wp2
                  have hR3 := R.box.set (.bool false) (.slice none 0 0) (.slice none 0 0)
                  have r0 := hR3.c0
                  have r1 := hR3.c1
                  have r2 := hR3.c2
                  refine bodyPost_ret (v := .tuple #[.agg #[.bool false, .slice none 0 0, .slice none 0 0], .int .i64 8]) (by simp [results, Tryz.results48, go_sem, r0, r1, r2]) rfl ?_
                  exact ⟨false, [], [], 8, Or.inr (Or.inr (Or.inl ⟨⟨hx.out, hy.out⟩, HO.out, hy0, (by first | exact HXZ.out | (have h5 := HXZ.out; simpa using h5)), HB.out, rfl, rfl, rfl, rfl⟩)), Below.set3 g sr _ _ _, none, 0, none, 0, rfl, nil_rd _, nil_rd _⟩
                · have hd1 : decide ((N : Int) > 1024) = false := decide_eq_false (by omega)
                  have g1 := g
                  have R1 := R
                  obtain ⟨X0, X1, X2⟩ := X.cells
                  obtain ⟨Y0, Y1, Y2⟩ := Y.cells
                  go_wp2_with fail
                  clear X0 X1 X2 Y0 Y1 Y2
                  have hcall := refPower_walk N 32 (val xn ^ N) X.rn (Nat.le_refl _) (by omega) (by omega) (by decide) rfl
                  refine hcall.mono ?_
                  clear hcall
                  rintro e w2 ⟨k2, hno, hyes⟩
                  replace X := X.below k2
                  replace Y := Y.below k2
                  replace R := R.below k2
                  replace g := g.trans (k2.mono g.size)
                  by_cases hf1 : val xn ^ N < pw 32
                  · obtain ⟨zs, z1, z2, cz, vz, rfl, oz⟩ := hyes hf1
                    have HZ : Hid (can zs ∧ val zs = val xn ^ N ∧ val xn ^ N < pw 32) := ⟨cz, vz, hf1⟩
                    clear hno hyes cz vz hf1
                    obtain ⟨X0, X1, X2⟩ := X.cells
                    obtain ⟨Y0, Y1, Y2⟩ := Y.cells
                    go_wp2_with fail
                    clear X0 X1 X2 Y0 Y1 Y2
                    have hcall := refPower_walk N 32 (val xd ^ N) X.rd (Nat.le_refl _) (by omega) (by omega) (by decide) rfl
                    refine hcall.mono ?_
                    clear hcall
                    rintro e w3 ⟨k3, hno, hyes⟩
                    replace X := X.below k3
                    replace Y := Y.below k3
                    replace R := R.below k3
                    replace g := g.trans (k3.mono g.size)
                    by_cases hf2 : val xd ^ N < pw 32
                    · obtain ⟨us, u1, u2, cu, vu, rfl, ou⟩ := hyes hf2
                      have HU : Hid (can us ∧ val us = val xd ^ N ∧ val xd ^ N < pw 32) := ⟨cu, vu, hf2⟩
                      clear hno hyes cu vu hf2
                      have HV : Hid (0 < val xn ∧ 0 < val xd ∧ gI (val xn) (val xd) = 1) := ⟨HXp.out, (right_pos hx.out).1, hx.out.2.2.2.2.2.2⟩
                      have ozz := oz.below k3 (Nat.le_refl _)
                      have ouu : Own w2.heap.size w3 (.slice u1 us.length u2) us := ou
                      have R2 := R1.below k2
                      cases cy with
                      | false =>
                        have HS := pow_fin (b := ob) HZ.out.1 HU.out.1 HZ.out.2.1 HU.out.2.1 HV.out.1 HV.out.2.1 HV.out.2.2 HZ.out.2.2 HU.out.2.2
                        have HSS : Hid (RightP ob zs us ∧ sg ob (val zs) = sg ob (val xn ^ N)) := HS
                        clear HS
                        obtain ⟨X0, X1, X2⟩ := X.cells
                        obtain ⟨Y0, Y1, Y2⟩ := Y.cells
                        have q0 := R.box.c0
                        have q1 := R.box.c1
                        have q2 := R.box.c2
                        have p0 := R.box.f0
                        have p1 := R.box.f1
                        have p2 := R.box.f2
                        go_wp2
                        have hR3 := R.box.set (.bool ob) (.slice z1 zs.length z2) (.slice u1 us.length u2)
                        have r0 := hR3.c0
                        have r1 := hR3.c1
                        have r2 := hR3.c2
                        refine bodyPost_ret (v := .tuple #[.agg #[.bool ob, .slice z1 zs.length z2, .slice u1 us.length u2], .int .i64 0]) (by simp [results, Tryz.results48, go_sem, r0, r1, r2]) rfl ?_
                        exact ⟨ob, zs, us, 0, Or.inr (Or.inr (Or.inr ⟨⟨hx.out, hy.out⟩, HO.out, (by first | exact HXZ2.out | (have h5 := HXZ2.out; simpa using h5)), (by rw [← HN.out.1]; exact HZ.out.2.2), (by rw [← HN.out.1]; exact HU.out.2.2), rfl, HSS.out.1, (by rw [← HN.out.1, HSS.out.2]; exact (HSG.out _).symm), (by rw [← HN.out.1]; exact HU.out.2.1)⟩)), Below.set3 g sr _ _ _, z1, z2, u1, u2, rfl, (Own.set3 ozz R1.lt _ _ _).rd, (Own.set3 ouu R2.lt _ _ _).rd⟩
                      | true =>
                        have HS := pow_fin (b := ob) HU.out.1 HZ.out.1 HU.out.2.1 HZ.out.2.1 HV.out.2.1 HV.out.1 (by rw [gI_comm]; exact HV.out.2.2) HU.out.2.2 HZ.out.2.2
                        have HSS : Hid (RightP ob us zs ∧ sg ob (val us) = sg ob (val xd ^ N)) := HS
                        clear HS
                        obtain ⟨X0, X1, X2⟩ := X.cells
                        obtain ⟨Y0, Y1, Y2⟩ := Y.cells
                        have q0 := R.box.c0
                        have q1 := R.box.c1
                        have q2 := R.box.c2
                        have p0 := R.box.f0
                        have p1 := R.box.f1
                        have p2 := R.box.f2
                        go_wp2
                        have hR3 := R.box.set (.bool ob) (.slice u1 us.length u2) (.slice z1 zs.length z2)
                        have r0 := hR3.c0
                        have r1 := hR3.c1
                        have r2 := hR3.c2
                        refine bodyPost_ret (v := .tuple #[.agg #[.bool ob, .slice u1 us.length u2, .slice z1 zs.length z2], .int .i64 0]) (by simp [results, Tryz.results48, go_sem, r0, r1, r2]) rfl ?_
                        exact ⟨ob, us, zs, 0, Or.inr (Or.inr (Or.inr ⟨⟨hx.out, hy.out⟩, HO.out, (by first | exact HXZ2.out | (have h5 := HXZ2.out; simpa using h5)), (by rw [← HN.out.1]; exact HU.out.2.2), (by rw [← HN.out.1]; exact HZ.out.2.2), rfl, HSS.out.1, (by rw [← HN.out.1, HSS.out.2]; exact (HSG.out _).symm), (by rw [← HN.out.1]; exact HZ.out.2.1)⟩)), Below.set3 g sr _ _ _, u1, u2, z1, z2, rfl, (Own.set3 ouu R2.lt _ _ _).rd, (Own.set3 ozz R1.lt _ _ _).rd⟩
                    · have he := hno (by omega)
                      subst he
                      have HB : Hid (pw 32 ≤ pnum cy xn xd ^ (val yn).toNat ∨ pw 32 ≤ pden cy xn xd ^ (val yn).toNat) := pow_big1 (by rw [← HN.out.1]; exact Or.inr (by omega))
                      clear hno hyes hf2
                      have q0 := R.box.c0
                      have q1 := R.box.c1
                      have q2 := R.box.c2
                      have p0 := R.box.f0
                      have p1 := R.box.f1
                      have p2 := R.box.f2
                      go_wp2
                      have hR3 := R.box.set (.bool false) (.slice none 0 0) (.slice none 0 0)
                      have r0 := hR3.c0
                      have r1 := hR3.c1
                      have r2 := hR3.c2
                      refine bodyPost_ret (v := .tuple #[.agg #[.bool false, .slice none 0 0, .slice none 0 0], .int .i64 8]) (by simp [results, Tryz.results48, go_sem, r0, r1, r2]) rfl ?_
                      exact ⟨false, [], [], 8, Or.inr (Or.inr (Or.inl ⟨⟨hx.out, hy.out⟩, HO.out, hy0, (by first | exact HXZ.out | (have h5 := HXZ.out; simpa using h5)), HB.out, rfl, rfl, rfl, rfl⟩)), Below.set3 g sr _ _ _, none, 0, none, 0, rfl, nil_rd _, nil_rd _⟩
                  · have he := hno (by omega)
                    subst he
                    have HBz : Hid (pw 32 ≤ val xn ^ N) := by unfold Hid; omega
                    clear hno hyes hf1
                    obtain ⟨X0, X1, X2⟩ := X.cells
                    obtain ⟨Y0, Y1, Y2⟩ := Y.cells
                    go_wp2_with fail
                    clear X0 X1 X2 Y0 Y1 Y2
                    have hcall := refPower_walk N 32 (val xd ^ N) X.rd (Nat.le_refl _) (by omega) (by omega) (by decide) rfl
                    refine hcall.mono ?_
                    clear hcall
                    rintro e w3 ⟨k3, hno, hyes⟩
                    replace X := X.below k3
                    replace Y := Y.below k3
                    replace R := R.below k3
                    replace g := g.trans (k3.mono g.size)
                    by_cases hf2 : val xd ^ N < pw 32
                    · obtain ⟨us, u1, u2, cu, vu, rfl, ou⟩ := hyes hf2
                      have HU : Hid (can us ∧ val us = val xd ^ N ∧ val xd ^ N < pw 32) := ⟨cu, vu, hf2⟩
                      clear hno hyes cu vu hf2
                      have HB : Hid (pw 32 ≤ pnum cy xn xd ^ (val yn).toNat ∨ pw 32 ≤ pden cy xn xd ^ (val yn).toNat) := pow_big1 (by rw [← HN.out.1]; exact Or.inl HBz.out)
                      have q0 := R.box.c0
                      have q1 := R.box.c1
                      have q2 := R.box.c2
                      have p0 := R.box.f0
                      have p1 := R.box.f1
                      have p2 := R.box.f2
                      go_wp2
                      have hR3 := R.box.set (.bool false) (.slice none 0 0) (.slice none 0 0)
                      have r0 := hR3.c0
                      have r1 := hR3.c1
                      have r2 := hR3.c2
                      refine bodyPost_ret (v := .tuple #[.agg #[.bool false, .slice none 0 0, .slice none 0 0], .int .i64 8]) (by simp [results, Tryz.results48, go_sem, r0, r1, r2]) rfl ?_
                      exact ⟨false, [], [], 8, Or.inr (Or.inr (Or.inl ⟨⟨hx.out, hy.out⟩, HO.out, hy0, (by first | exact HXZ.out | (have h5 := HXZ.out; simpa using h5)), HB.out, rfl, rfl, rfl, rfl⟩)), Below.set3 g sr _ _ _, none, 0, none, 0, rfl, nil_rd _, nil_rd _⟩
                    · have he := hno (by omega)
                      subst he
                      have HB : Hid (pw 32 ≤ pnum cy xn xd ^ (val yn).toNat ∨ pw 32 ≤ pden cy xn xd ^ (val yn).toNat) := pow_big1 (by rw [← HN.out.1]; exact Or.inr (by omega))
                      clear hno hyes hf2
                      have q0 := R.box.c0
                      have q1 := R.box.c1
                      have q2 := R.box.c2
                      have p0 := R.box.f0
                      have p1 := R.box.f1
                      have p2 := R.box.f2
                      go_wp2
                      have hR3 := R.box.set (.bool false) (.slice none 0 0) (.slice none 0 0)
                      have r0 := hR3.c0
                      have r1 := hR3.c1
                      have r2 := hR3.c2
                      refine bodyPost_ret (v := .tuple #[.agg #[.bool false, .slice none 0 0, .slice none 0 0], .int .i64 8]) (by simp [results, Tryz.results48, go_sem, r0, r1, r2]) rfl ?_
                      exact ⟨false, [], [], 8, Or.inr (Or.inr (Or.inl ⟨⟨hx.out, hy.out⟩, HO.out, hy0, (by first | exact HXZ.out | (have h5 := HXZ.out; simpa using h5)), HB.out, rfl, rfl, rfl, rfl⟩)), Below.set3 g sr _ _ _, none, 0, none, 0, rfl, nil_rd _, nil_rd _⟩
              · rw [smallV_ge (by omega)]
                have HB : Hid (pw 32 ≤ pnum cy xn xd ^ (val yn).toNat ∨ pw 32 ≤ pden cy xn xd ^ (val yn).toNat) := pow_wide hx.out hx0 HNE.out (by rw [← HN.out.1]; omega)
                have q0 := R.box.c0
                have q1 := R.box.c1
                have q2 := R.box.c2
                have p0 := R.box.f0
                have p1 := R.box.f1
                have p2 := R.box.f2
                go_wp2
                have hR3 := R.box.set (.bool false) (.slice none 0 0) (.slice none 0 0)
                have r0 := hR3.c0
                have r1 := hR3.c1
                have r2 := hR3.c2
                refine bodyPost_ret (v := .tuple #[.agg #[.bool false, .slice none 0 0, .slice none 0 0], .int .i64 8]) (by simp [results, Tryz.results48, go_sem, r0, r1, r2]) rfl ?_
                exact ⟨false, [], [], 8, Or.inr (Or.inr (Or.inl ⟨⟨hx.out, hy.out⟩, HO.out, hy0, (by first | exact HXZ.out | (have h5 := HXZ.out; simpa using h5)), HB.out, rfl, rfl, rfl, rfl⟩)), Below.set3 g sr _ _ _, none, 0, none, 0, rfl, nil_rd _, nil_rd _⟩
          · have hxb : ((xn.length : Int) == 0) = true := by rw [beq_iff_eq]; omega
            have Hx : Hid (xn.length = 0) := by unfold Hid; omega
            clear hx0
            cases cy with
            | true =>
              obtain ⟨X0, X1, X2⟩ := X.cells
              obtain ⟨Y0, Y1, Y2⟩ := Y.cells
              have q0 := R.box.c0
              have q1 := R.box.c1
              have q2 := R.box.c2
              have p0 := R.box.f0
              have p1 := R.box.f1
              have p2 := R.box.f2
              go_wp2
              have hR3 := R.box.set (.bool false) (.slice none 0 0) (.slice none 0 0)
              have r0 := hR3.c0
              have r1 := hR3.c1
              have r2 := hR3.c2
              refine bodyPost_ret (v := .tuple #[.agg #[.bool false, .slice none 0 0, .slice none 0 0], .int .i64 3]) (by simp [results, Tryz.results48, go_sem, r0, r1, r2]) rfl ?_
              exact ⟨false, [], [], 3, Or.inr (Or.inl ⟨⟨hx.out, hy.out⟩, Or.inr ⟨HO.out, hy0, Hx.out, rfl⟩, rfl, rfl, rfl, rfl⟩), Below.set3 g sr _ _ _, none, 0, none, 0, rfl, nil_rd _, nil_rd _⟩
            | false =>
              have HXv : Hid (val xn = 0 ∧ val xd = 1) := by
                have h5 := (can_zero hx.out.2.2.1).1 Hx.out
                have h6 := hx.out.2.2.2.2.2.2
                rw [h5, gI_zero_left _ (Int.le_of_lt (right_pos hx.out).1)] at h6
                exact ⟨h5, h6⟩
              have HYv : Hid (0 < (val yn).toNat) := by
                have h5 := can_low hy.out.2.2.1 hy0
                have h6 := pw_pos (yn.length - 1)
                unfold Hid
                omega
              have HPN : Hid (pnum false xn xd = 0 ∧ pden false xn xd = 1) := HXv
              have R9 := R
              obtain ⟨X0, X1, X2⟩ := X.cells
              obtain ⟨Y0, Y1, Y2⟩ := Y.cells
              go_wp2_with fail
              clear X0 X1 X2 Y0 Y1 Y2
              refine (refZero_any _).mono ?_
              rintro e wz ⟨ds, HD, kz, x5, y5, x6, y6, rfl, on, od⟩
              replace X := X.below kz
              replace Y := Y.below kz
              replace R := R.below kz
              replace g := g.trans (kz.mono g.size)
              have q0 := R.box.c0
              have q1 := R.box.c1
              have q2 := R.box.c2
              have p0 := R.box.f0
              have p1 := R.box.f1
              have p2 := R.box.f2
              go_wp2
              have hR3 := R.box.set (.bool false) (.slice x5 0 y5) (.slice x6 ds.length y6)
              have r0 := hR3.c0
              have r1 := hR3.c1
              have r2 := hR3.c2
              refine bodyPost_ret (v := .tuple #[.agg #[.bool false, .slice x5 0 y5, .slice x6 ds.length y6], .int .i64 0]) (by simp [results, Tryz.results48, go_sem, r0, r1, r2]) rfl ?_
              exact ⟨false, [], ds, 0, Or.inr (Or.inr (Or.inr ⟨⟨hx.out, hy.out⟩, HO.out, (fun h => by cases h.2.2), (by rw [HPN.out.1, Int.zero_pow (by have := HYv.out; omega)]; exact pw_pos 32), (by rw [HPN.out.2, Int.one_pow]; exact one_lt_pw), rfl, (by rw [HD.out]; exact right_zero), (by rw [HPN.out.1, sg_zero, Int.zero_pow (by have := HYv.out; omega)]; rfl), (by rw [HPN.out.2, Int.one_pow, HD.out]; rfl)⟩)), Below.set3 g sr _ _ _, x5, y5, x6, y6, rfl, (Own.set3 on R9.lt _ _ _).rd, (Own.set3 od R9.lt _ _ _).rd⟩
        · have hyb : ((yn.length : Int) == 0) = true := by rw [beq_iff_eq]; omega
          have HY0 : Hid ((val yn).toNat = 0 ∧ ¬ 0 < yn.length) := by
            refine ⟨?_, hy0⟩
            rw [(can_zero hy.out.2.2.1).1 (by omega)]
            rfl
          have R1 := R
          obtain ⟨Y0, Y1, Y2⟩ := Y.cells
          go_wp2_with fail
          clear Y0 Y1 Y2
          refine (refOfInt_any 1 (by omega) (by omega) _).mono ?_
          rintro e w2 ⟨k2, b1, ns, ds, x1, y1, x2, y2, HW, rfl, on, od⟩
          replace X := X.below k2
          replace Y := Y.below k2
          replace R := R.below k2
          replace g := g.trans (k2.mono g.size)
          have q0 := R.box.c0
          have q1 := R.box.c1
          have q2 := R.box.c2
          have p0 := R.box.f0
          have p1 := R.box.f1
          have p2 := R.box.f2
          go_wp2
          have hR3 := R.box.set (.bool b1) (.slice x1 ns.length y1) (.slice x2 ds.length y2)
          have r0 := hR3.c0
          have r1 := hR3.c1
          have r2 := hR3.c2
          refine bodyPost_ret (v := .tuple #[.agg #[.bool b1, .slice x1 ns.length y1, .slice x2 ds.length y2], .int .i64 0]) (by simp [results, Tryz.results48, go_sem, r0, r1, r2]) rfl ?_
          exact ⟨b1, ns, ds, 0, Or.inr (Or.inr (Or.inr ⟨⟨hx.out, hy.out⟩, HO.out, (fun h => HY0.out.2 h.1), (by rw [HY0.out.1, Int.pow_zero]; exact one_lt_pw), (by rw [HY0.out.1, Int.pow_zero]; exact one_lt_pw), rfl, HW.out.right, (by rw [HY0.out.1, HW.out.sg.1, Int.pow_zero]), (by rw [HY0.out.1, HW.out.sg.2, Int.pow_zero])⟩)), Below.set3 g sr _ _ _, x1, y1, x2, y2, rfl, (Own.set3 on R1.lt _ _ _).rd, (Own.set3 od R1.lt _ _ _).rd⟩
end
end Go.Proofs.YtidbebfendjnlaaGreatDoor

/- The walk over RatFunctions: residues, powers, factorials and binomials. -/
namespace Go.Proofs.YtidbebfendjnlaaGreatDoor
set_option linter.unusedVariables false
set_option linter.unusedSimpArgs false
open Go.RowKit

set_option maxRecDepth 100000 in
set_option maxHeartbeats 32000000 in
theorem ratFunctions_walk {w : World} {bx cy : Bool} {a1 a2 a3 a4 : Option Addr} {c1 c2 c3 c4 : Nat} {xn xd yn yd : List Int} (h1 : Rd w.heap.size w (.slice a1 xn.length c1) xn) (h2 : Rd w.heap.size w (.slice a2 xd.length c2) xd) (h3 : Rd w.heap.size w (.slice a3 yn.length c3) yn) (h4 : Rd w.heap.size w (.slice a4 yd.length c4) yd) (htab : Lib.TabIs Tryz.prog w "internal/strconv.uint64pow10" .u64 Lib.pow10Tab) :
    Calls Tryz.prog 8 #[.agg #[.bool bx, .slice a1 xn.length c1, .slice a2 xd.length c2], .agg #[.bool cy, .slice a3 yn.length c3, .slice a4 yd.length c4]] w fun e w' => e = .returned (.bool true) ∧ Below w.heap.size w w' := by
  obtain ⟨X, Y, g⟩ := nvar_in2 (bx := bx) (cy := cy) h1 h2 h3 h4
  have hD : RightP bx xn xd ∧ RightP cy yn yd → 0 < val yd * val xd := fun h => Int.mul_pos (right_pos h.2).1 (right_pos h.1).1
  clear h1 h2 h3 h4
  obtain ⟨X0, X1, X2⟩ := X.cells
  obtain ⟨Y0, Y1, Y2⟩ := Y.cells
  go_enter Tryz.func8, Tryz.ntmps8
  go_wp2_with fail
  clear X0 X1 X2 Y0 Y1 Y2
  generalize hA : ((w.alloc (.cells #[.bool bx, .slice a1 xn.length c1, .slice a2 xd.length c2] 25)).alloc (.cells #[.bool cy, .slice a3 yn.length c3, .slice a4 yd.length c4] 25)) = v1 at *
  clear hA
  refine (residue_rat X.rn X.rd Y.rn Y.rd).mono ?_
  intro e w2 hm
  obtain ⟨b1, n1, d1, e1, HS1, k3, u1p, v1p, x1p, y1p, rfl, rn1p, rd1p⟩ := hm.spec
  clear hm
  replace X := X.below k3
  replace Y := Y.below k3
  replace g := g.trans (k3.mono g.size)
  clear k3
  have neXP : w.heap.size ≠ w2.heap.size := Nat.ne_of_lt X.lt
  have neYP : (w.heap.size + 1) ≠ w2.heap.size := Nat.ne_of_lt Y.lt
  have leP : w.heap.size ≤ w2.heap.size := g.size
  have ka4 := below_alloc w2 (.cells #[.bool b1, .slice u1p n1.length v1p, .slice x1p d1.length y1p] 25)
  have P := nvar_new (b := b1) rn1p rd1p
  replace X := X.below ka4
  replace Y := Y.below ka4
  replace g := g.trans (ka4.mono g.size)
  clear ka4
  obtain ⟨X0, X1, X2⟩ := X.cells
  obtain ⟨Y0, Y1, Y2⟩ := Y.cells
  go_wp2_with fail
  clear X0 X1 X2 Y0 Y1 Y2
  generalize hA : (w2.alloc (.cells #[.bool b1, .slice u1p n1.length v1p, .slice x1p d1.length y1p] 25)) = v5 at *
  clear hA
  refine (refResidue_rat X.rn X.rd Y.rn Y.rd).mono ?_
  intro e w6 hm
  obtain ⟨k7, u1q, v1q, x1q, y1q, rfl, rn1q, rd1q⟩ := hm.same hD HS1
  clear hm HS1
  replace X := X.below k7
  replace Y := Y.below k7
  replace P := P.below k7
  replace g := g.trans (k7.mono g.size)
  clear k7
  have neXQ : w.heap.size ≠ w6.heap.size := Nat.ne_of_lt X.lt
  have neYQ : (w.heap.size + 1) ≠ w6.heap.size := Nat.ne_of_lt Y.lt
  have nePQ : w2.heap.size ≠ w6.heap.size := Nat.ne_of_lt P.lt
  have leQ : w.heap.size ≤ w6.heap.size := g.size
  have ka8 := below_alloc w6 (.cells #[.bool b1, .slice u1q n1.length v1q, .slice x1q d1.length y1q] 25)
  have Q := nvar_new (b := b1) rn1q rd1q
  replace X := X.below ka8
  replace Y := Y.below ka8
  replace P := P.below ka8
  replace g := g.trans (ka8.mono g.size)
  clear ka8
  go_wp2_with fail
  generalize hA : (w6.alloc (.cells #[.bool b1, .slice u1q n1.length v1q, .slice x1q d1.length y1q] 25)) = v9 at *
  clear hA
  refine (live_rat _ (tabIs_below htab g)).mono ?_
  rintro e w10 ⟨rfl, k11⟩
  replace X := X.below k11
  replace Y := Y.below k11
  replace P := P.below k11
  replace Q := Q.below k11
  replace g := g.trans (k11.mono g.size)
  clear k11
  obtain ⟨P0, P1, P2⟩ := P.cells
  obtain ⟨Q0, Q1, Q2⟩ := Q.cells
  go_wp2_with fail
  clear P0 P1 P2 Q0 Q1 Q2
  refine (same_ans e1 P.rn P.rd Q.rn Q.rd).mono ?_
  rintro e w12 ⟨rfl, k13⟩
  replace X := X.below k13
  replace Y := Y.below k13
  replace P := P.below k13
  replace Q := Q.below k13
  replace g := g.trans (k13.mono g.size)
  clear k13
  obtain ⟨X0, X1, X2⟩ := X.cells
  obtain ⟨Y0, Y1, Y2⟩ := Y.cells
  go_wp2_with fail
  clear X0 X1 X2 Y0 Y1 Y2
  refine (power_rat X.rn X.rd Y.rn Y.rd).mono ?_
  intro e w14 hm
  obtain ⟨b2, n2, d2, e2, HS2, k15, u2p, v2p, x2p, y2p, rfl, rn2p, rd2p⟩ := hm.spec
  clear hm
  replace X := X.below k15
  replace Y := Y.below k15
  replace P := P.below k15
  replace Q := Q.below k15
  replace g := g.trans (k15.mono g.size)
  clear k15
  have q0 := P.box.c0
  have q1 := P.box.c1
  have q2 := P.box.c2
  have p0 := P.box.f0
  have p1 := P.box.f1
  have p2 := P.box.f2
  replace X := X.by' P neXP (.bool b2) (.slice u2p n2.length v2p) (.slice x2p d2.length y2p)
  replace Y := Y.by' P neYP (.bool b2) (.slice u2p n2.length v2p) (.slice x2p d2.length y2p)
  replace Q := Q.by' P nePQ.symm (.bool b2) (.slice u2p n2.length v2p) (.slice x2p d2.length y2p)
  replace P := P.put (c := b2) rn2p rd2p
  replace g := Below.set3 g leP (.bool b2) (.slice u2p n2.length v2p) (.slice x2p d2.length y2p)
  clear rn2p rd2p
  obtain ⟨X0, X1, X2⟩ := X.cells
  obtain ⟨Y0, Y1, Y2⟩ := Y.cells
  go_wp2_with fail
  clear X0 X1 X2 Y0 Y1 Y2
  clear q0 q1 q2 p0 p1 p2
  generalize hA : (((w14.setCell ⟨w2.heap.size, 0, none⟩ (.bool b2)).setCell ⟨w2.heap.size, 1, none⟩ (.slice u2p n2.length v2p)).setCell ⟨w2.heap.size, 2, none⟩ (.slice x2p d2.length y2p)) = v16 at *
  clear hA
  refine (refPower_rat X.rn X.rd Y.rn Y.rd).mono ?_
  intro e w17 hm
  obtain ⟨k18, u2q, v2q, x2q, y2q, rfl, rn2q, rd2q⟩ := pow_same HS2 hm
  clear hm HS2
  replace X := X.below k18
  replace Y := Y.below k18
  replace P := P.below k18
  replace Q := Q.below k18
  replace g := g.trans (k18.mono g.size)
  clear k18
  have q0 := Q.box.c0
  have q1 := Q.box.c1
  have q2 := Q.box.c2
  have p0 := Q.box.f0
  have p1 := Q.box.f1
  have p2 := Q.box.f2
  replace X := X.by' Q neXQ (.bool b2) (.slice u2q n2.length v2q) (.slice x2q d2.length y2q)
  replace Y := Y.by' Q neYQ (.bool b2) (.slice u2q n2.length v2q) (.slice x2q d2.length y2q)
  replace P := P.by' Q nePQ (.bool b2) (.slice u2q n2.length v2q) (.slice x2q d2.length y2q)
  replace Q := Q.put (c := b2) rn2q rd2q
  replace g := Below.set3 g leQ (.bool b2) (.slice u2q n2.length v2q) (.slice x2q d2.length y2q)
  clear rn2q rd2q
  obtain ⟨P0, P1, P2⟩ := P.cells
  obtain ⟨Q0, Q1, Q2⟩ := Q.cells
  go_wp2_with fail
  clear P0 P1 P2 Q0 Q1 Q2
  clear q0 q1 q2 p0 p1 p2
  generalize hA : (((w17.setCell ⟨w6.heap.size, 0, none⟩ (.bool b2)).setCell ⟨w6.heap.size, 1, none⟩ (.slice u2q n2.length v2q)).setCell ⟨w6.heap.size, 2, none⟩ (.slice x2q d2.length y2q)) = v19 at *
  clear hA
  refine (same_ans e2 P.rn P.rd Q.rn Q.rd).mono ?_
  rintro e w20 ⟨rfl, k21⟩
  replace X := X.below k21
  replace Y := Y.below k21
  replace P := P.below k21
  replace Q := Q.below k21
  replace g := g.trans (k21.mono g.size)
  clear k21
  obtain ⟨X0, X1, X2⟩ := X.cells
  go_wp2_with fail
  clear X0 X1 X2
  refine (factorial_rat X.rn X.rd).mono ?_
  intro e w22 hm
  obtain ⟨b3, n3, d3, e3, HS3, k23, u3p, v3p, x3p, y3p, rfl, rn3p, rd3p⟩ := hm
  replace X := X.below k23
  replace Y := Y.below k23
  replace P := P.below k23
  replace Q := Q.below k23
  replace g := g.trans (k23.mono g.size)
  clear k23
  have q0 := P.box.c0
  have q1 := P.box.c1
  have q2 := P.box.c2
  have p0 := P.box.f0
  have p1 := P.box.f1
  have p2 := P.box.f2
  replace X := X.by' P neXP (.bool b3) (.slice u3p n3.length v3p) (.slice x3p d3.length y3p)
  replace Y := Y.by' P neYP (.bool b3) (.slice u3p n3.length v3p) (.slice x3p d3.length y3p)
  replace Q := Q.by' P nePQ.symm (.bool b3) (.slice u3p n3.length v3p) (.slice x3p d3.length y3p)
  replace P := P.put (c := b3) rn3p rd3p
  replace g := Below.set3 g leP (.bool b3) (.slice u3p n3.length v3p) (.slice x3p d3.length y3p)
  clear rn3p rd3p
  obtain ⟨X0, X1, X2⟩ := X.cells
  go_wp2_with fail
  clear X0 X1 X2
  clear q0 q1 q2 p0 p1 p2
  generalize hA : (((w22.setCell ⟨w2.heap.size, 0, none⟩ (.bool b3)).setCell ⟨w2.heap.size, 1, none⟩ (.slice u3p n3.length v3p)).setCell ⟨w2.heap.size, 2, none⟩ (.slice x3p d3.length y3p)) = v24 at *
  clear hA
  refine (refFactorial_rat X.rn X.rd).mono ?_
  intro e w25 hm
  obtain ⟨k26, u3q, v3q, x3q, y3q, rfl, rn3q, rd3q⟩ := count_same HS3 hm
  clear hm HS3
  replace X := X.below k26
  replace Y := Y.below k26
  replace P := P.below k26
  replace Q := Q.below k26
  replace g := g.trans (k26.mono g.size)
  clear k26
  have q0 := Q.box.c0
  have q1 := Q.box.c1
  have q2 := Q.box.c2
  have p0 := Q.box.f0
  have p1 := Q.box.f1
  have p2 := Q.box.f2
  replace X := X.by' Q neXQ (.bool b3) (.slice u3q n3.length v3q) (.slice x3q d3.length y3q)
  replace Y := Y.by' Q neYQ (.bool b3) (.slice u3q n3.length v3q) (.slice x3q d3.length y3q)
  replace P := P.by' Q nePQ (.bool b3) (.slice u3q n3.length v3q) (.slice x3q d3.length y3q)
  replace Q := Q.put (c := b3) rn3q rd3q
  replace g := Below.set3 g leQ (.bool b3) (.slice u3q n3.length v3q) (.slice x3q d3.length y3q)
  clear rn3q rd3q
  obtain ⟨P0, P1, P2⟩ := P.cells
  obtain ⟨Q0, Q1, Q2⟩ := Q.cells
  go_wp2_with fail
  clear P0 P1 P2 Q0 Q1 Q2
  clear q0 q1 q2 p0 p1 p2
  generalize hA : (((w25.setCell ⟨w6.heap.size, 0, none⟩ (.bool b3)).setCell ⟨w6.heap.size, 1, none⟩ (.slice u3q n3.length v3q)).setCell ⟨w6.heap.size, 2, none⟩ (.slice x3q d3.length y3q)) = v27 at *
  clear hA
  refine (same_ans e3 P.rn P.rd Q.rn Q.rd).mono ?_
  rintro e w28 ⟨rfl, k29⟩
  replace X := X.below k29
  replace Y := Y.below k29
  replace P := P.below k29
  replace Q := Q.below k29
  replace g := g.trans (k29.mono g.size)
  clear k29
  obtain ⟨X0, X1, X2⟩ := X.cells
  obtain ⟨Y0, Y1, Y2⟩ := Y.cells
  go_wp2_with fail
  clear X0 X1 X2 Y0 Y1 Y2
  refine (binomial_rat X.rn X.rd Y.rn Y.rd).mono ?_
  intro e w30 hm
  obtain ⟨b4, n4, d4, e4, HS4, k31, u4p, v4p, x4p, y4p, rfl, rn4p, rd4p⟩ := hm
  replace X := X.below k31
  replace Y := Y.below k31
  replace P := P.below k31
  replace Q := Q.below k31
  replace g := g.trans (k31.mono g.size)
  clear k31
  have q0 := P.box.c0
  have q1 := P.box.c1
  have q2 := P.box.c2
  have p0 := P.box.f0
  have p1 := P.box.f1
  have p2 := P.box.f2
  replace X := X.by' P neXP (.bool b4) (.slice u4p n4.length v4p) (.slice x4p d4.length y4p)
  replace Y := Y.by' P neYP (.bool b4) (.slice u4p n4.length v4p) (.slice x4p d4.length y4p)
  replace Q := Q.by' P nePQ.symm (.bool b4) (.slice u4p n4.length v4p) (.slice x4p d4.length y4p)
  replace P := P.put (c := b4) rn4p rd4p
  replace g := Below.set3 g leP (.bool b4) (.slice u4p n4.length v4p) (.slice x4p d4.length y4p)
  clear rn4p rd4p
  obtain ⟨X0, X1, X2⟩ := X.cells
  obtain ⟨Y0, Y1, Y2⟩ := Y.cells
  go_wp2_with fail
  clear X0 X1 X2 Y0 Y1 Y2
  clear q0 q1 q2 p0 p1 p2
  generalize hA : (((w30.setCell ⟨w2.heap.size, 0, none⟩ (.bool b4)).setCell ⟨w2.heap.size, 1, none⟩ (.slice u4p n4.length v4p)).setCell ⟨w2.heap.size, 2, none⟩ (.slice x4p d4.length y4p)) = v32 at *
  clear hA
  refine (refBinomial_rat X.rn X.rd Y.rn Y.rd).mono ?_
  intro e w33 hm
  obtain ⟨k34, u4q, v4q, x4q, y4q, rfl, rn4q, rd4q⟩ := count_same HS4 hm
  clear hm HS4
  replace X := X.below k34
  replace Y := Y.below k34
  replace P := P.below k34
  replace Q := Q.below k34
  replace g := g.trans (k34.mono g.size)
  clear k34
  have q0 := Q.box.c0
  have q1 := Q.box.c1
  have q2 := Q.box.c2
  have p0 := Q.box.f0
  have p1 := Q.box.f1
  have p2 := Q.box.f2
  replace X := X.by' Q neXQ (.bool b4) (.slice u4q n4.length v4q) (.slice x4q d4.length y4q)
  replace Y := Y.by' Q neYQ (.bool b4) (.slice u4q n4.length v4q) (.slice x4q d4.length y4q)
  replace P := P.by' Q nePQ (.bool b4) (.slice u4q n4.length v4q) (.slice x4q d4.length y4q)
  replace Q := Q.put (c := b4) rn4q rd4q
  replace g := Below.set3 g leQ (.bool b4) (.slice u4q n4.length v4q) (.slice x4q d4.length y4q)
  clear rn4q rd4q
  obtain ⟨P0, P1, P2⟩ := P.cells
  obtain ⟨Q0, Q1, Q2⟩ := Q.cells
  go_wp2_with fail
  clear P0 P1 P2 Q0 Q1 Q2
  clear q0 q1 q2 p0 p1 p2
  generalize hA : (((w33.setCell ⟨w6.heap.size, 0, none⟩ (.bool b4)).setCell ⟨w6.heap.size, 1, none⟩ (.slice u4q n4.length v4q)).setCell ⟨w6.heap.size, 2, none⟩ (.slice x4q d4.length y4q)) = v35 at *
  clear hA
  refine (same_ans e4 P.rn P.rd Q.rn Q.rd).mono ?_
  rintro e w36 ⟨rfl, k37⟩
  replace X := X.below k37
  replace Y := Y.below k37
  replace P := P.below k37
  replace Q := Q.below k37
  replace g := g.trans (k37.mono g.size)
  clear k37
  go_wp2
  go_ret
  exact ⟨rfl, g⟩
end Go.Proofs.YtidbebfendjnlaaGreatDoor
