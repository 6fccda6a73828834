/- The document's ToInt; ToInts of any array, both. -/
import Derived.Test.YtnlmjibdifbnbaaGreatKD
import Derived.Test.YtnlmjibdifbnbaaGreatKC
import Derived.Lib.RuneBytes
import Derived.Laws.Cover4
namespace Go.Proofs.YtnlmjibdifbnbaaGreat
set_option linter.unusedVariables false
set_option linter.unusedSimpArgs false
open Go.RowKit

theorem TellsInt.unique {t : Tr} {n m : Int} {ok fine : Bool} (h : TellsInt t n ok) (k : TellsInt t m fine) : m = n ∧ fine = ok := by
  rcases h with ⟨h1, h⟩ | ⟨h1, rfl, rfl⟩ <;> rcases k with ⟨k1, k⟩ | ⟨k1, rfl, rfl⟩
  · exact h.unique k
  · exact absurd h1 k1
  · exact absurd k1 h1
  · exact ⟨rfl, rfl⟩
/-- An int that is told. -/
theorem TellsInt.range {t : Tr} {n : Int} {ok : Bool} (h : TellsInt t n ok) : -9223372036854775808 ≤ n ∧ n ≤ 9223372036854775807 := by
  rcases h with ⟨_, ⟨_, _, h1, h2, rfl⟩ | ⟨_, rfl, _⟩⟩ | ⟨_, rfl, _⟩ <;> omega
/-- What is told of items as ints. -/
def IntsTold (ks : List Tr) (l : List Int) (ok : Bool) : Prop := (ok = true ∧ l.length = ks.length ∧ ∀ j, j < ks.length → TellsInt (ks.getD j tr0) (l.getD j 0) true) ∨ (ok = false ∧ l = [] ∧ ∃ j n, j < ks.length ∧ TellsInt (ks.getD j tr0) n false)
theorem IntsTold.unique {ks : List Tr} {l m : List Int} {ok fine : Bool} (h : IntsTold ks l ok) (k : IntsTold ks m fine) : m = l ∧ fine = ok := by
  rcases h with ⟨rfl, h1, h2⟩ | ⟨rfl, rfl, j, n, hj, h2⟩ <;> rcases k with ⟨rfl, k1, k2⟩ | ⟨rfl, rfl, i, m', hi, k2⟩
  · refine ⟨List.ext_getElem (by omega) fun i h3 h4 => ?_, rfl⟩
    have := ((h2 i (by omega)).unique (k2 i (by omega))).1
    rw [List.getD_eq_getElem?_getD, List.getD_eq_getElem?_getD, List.getElem?_eq_getElem h3, List.getElem?_eq_getElem h4] at this
    exact this
  · have := ((h2 i hi).unique k2).2; cases this
  · have := (h2.unique (k2 j hj)).2; cases this
  · exact ⟨rfl, rfl⟩
def IntsOf (t : Tr) (l : List Int) (ok : Bool) : Prop := ((t.ns.length ≤ 1 ∧ (measF 16 t).isSome = true) ∧ (((sizeF t.ns).1 = 0 ∧ l = [] ∧ ok = true) ∨ (¬ (sizeF t.ns).1 = 0 ∧ IntsTold t.kids l ok))) ∨ (¬ (t.ns.length ≤ 1 ∧ (measF 16 t).isSome = true) ∧ l = [] ∧ ok = false)
theorem IntsOf.unique {t : Tr} {l m : List Int} {ok fine : Bool} (h : IntsOf t l ok) (k : IntsOf t m fine) : m = l ∧ fine = ok := by
  rcases h with ⟨h1, h⟩ | ⟨h1, rfl, rfl⟩ <;> rcases k with ⟨k1, k⟩ | ⟨k1, rfl, rfl⟩
  · rcases h with ⟨h2, rfl, rfl⟩ | ⟨h2, h⟩ <;> rcases k with ⟨k2, rfl, rfl⟩ | ⟨k2, k⟩
    · exact ⟨rfl, rfl⟩
    · exact absurd h2 k2
    · exact absurd k2 h2
    · exact h.unique k
  · exact absurd h1 k1
  · exact absurd k1 h1
  · exact ⟨rfl, rfl⟩
theorem ints_nil (W' : World) (Z : Nat) : RdN (Fr Z W'.heap.size) W' (.slice none 0 0) [] := ⟨(fun x h => by cases h), none, 0, rfl, Nat.le_refl _, by omega, fun _ => rfl, Or.inl rfl⟩
/-- One more int. -/
theorem told_step {ks : List Tr} {l : List Int} {i : Nat} {n : Int} (hl : l.length = i) (h : ∀ j, j < i → TellsInt (ks.getD j tr0) (l.getD j 0) true) (hn : TellsInt (ks.getD i tr0) n true) : (l ++ [n]).length = i + 1 ∧ ∀ j, j < i + 1 → TellsInt (ks.getD j tr0) ((l ++ [n]).getD j 0) true := by
  refine ⟨by simp [hl], fun j hj => ?_⟩
  by_cases hji : j = i
  · subst hji
    have : (l ++ [n]).getD j 0 = n := by simp [List.getD_eq_getElem?_getD, hl]
    rw [this]; exact hn
  · have : (l ++ [n]).getD j 0 = l.getD j 0 := by simp [List.getD_eq_getElem?_getD, List.getElem?_append_left (show j < l.length by omega)]
    rw [this]; exact h j (by omega)
section
variable {D : Nat → Prop} {f : Nat} {W : World} {x1 : Option Addr} {n1 y1 : Nat} {x2 : Option Addr} {n2 y2 : Nat} {t : Tr}
set_option maxRecDepth 100000 in
set_option maxHeartbeats 16000000 in
theorem refToInt3_any (hD : ∀ g, D g → g < W.heap.size) (h : ArV f D W (.slice x1 n1 y1) (.slice x2 n2 y2) t) : Calls Tryz.prog 5 #[.agg #[.slice x1 n1 y1, .slice x2 n2 y2]] W fun e w' => ∃ n ok, e = .returned (.tuple #[.int .i64 n, .bool ok]) ∧ Hid (IntOf t n ok) ∧ Below W.heap.size W w' := by
  obtain ⟨f, rfl⟩ : ∃ f', f = f' + 1 := by
    cases f with
    | zero => exact h.elim
    | succ f => exact ⟨f, rfl⟩
  have en1 := h.1.len
  have en2 := h.2.len
  have HN1 : Hid (n1 = t.ns.length) := en1
  have HN2 : Hid (n2 = t.kids.length) := en2
  have k0 := below_alloc W (.cells #[.slice x1 n1 y1, .slice x2 n2 y2] 25)
  have X0 := boxA_new W #[.slice x1 n1 y1, .slice x2 n2 y2] 25
  have s0 : W.heap.size < (W.alloc (.cells #[.slice x1 n1 y1, .slice x2 n2 y2] 25)).heap.size := by simp
  have z0 := X0.cell 0 rfl
  have z1 := X0.cell 1 rfl
  have H : Hid (ArV (f + 1) D W (.slice x1 n1 y1) (.slice x2 n2 y2) t) := h
  have HD : Hid (∀ g, D g → g < W.heap.size) := hD
  clear h hD en1 en2
  obtain ⟨sz, hsz⟩ : ∃ n, (sizeF t.ns).1 = n := ⟨_, rfl⟩
  obtain ⟨se, hse⟩ : ∃ n, (sizeF t.ns).2 = n := ⟨_, rfl⟩
  have HSZ : Hid ((sizeF t.ns).1 = sz) := hsz
  have HSE : Hid ((sizeF t.ns).2 = se) := hse
  clear hsz hse
  go_enter Tryz.func5, Tryz.ntmps5
  go_wp2_with fail
  generalize hA : W.alloc (.cells #[.slice x1 n1 y1, .slice x2 n2 y2] 25) = v at *
  clear hA
  have hrs := (H.out.agree (Agree.of k0 HD.out)).1
  rw [HN1.out] at hrs
  have C := refSize3_any hrs (fun g hg => by have := HD.out g hg; omega)
  clear hrs
  rw [HSZ.out, HSE.out, ← HN1.out] at C
  refine C.mono ?_
  rintro e w1 ⟨rfl, hw⟩
  obtain rfl := hw.symm
  clear C
  by_cases hE : ¬ se = 0
  · have e0 : (se != 0) = true := by rw [bne_iff_ne]; exact hE
    have HE : Hid (¬ se = 0) := hE
    clear hE
    go_wp2
    go_ret2
    refine ⟨0, false, rfl, Or.inr ⟨fun h => ?_, rfl, rfl⟩, k0⟩
    obtain ⟨_, _, _, m2, _⟩ := measF_some h.2.1
    exact HE.out (by rw [← HSE.out]; exact m2)
  have hE : se = 0 := Decidable.not_not.1 hE
  subst hE
  by_cases h1 : ¬ sz = 1
  · have e0 : (sz != 1) = true := by rw [bne_iff_ne]; exact h1
    have H1 : Hid (¬ sz = 1) := h1
    clear h1
    go_wp2
    go_ret2
    refine ⟨0, false, rfl, Or.inr ⟨fun h => ?_, rfl, rfl⟩, k0⟩
    obtain ⟨_, _, _, m2, m3, _⟩ := measF_some h.2.1
    refine H1.out ?_
    have := HSZ.out
    have := h.1
    have := h.2.2
    have := sizeF_in t.ns
    omega
  have h1 : sz = 1 := Decidable.not_not.1 h1
  subst h1
  go_wp2_with fail
  refine (refRight3_any (D := D) (f := f + 1) (t := t) (fun g hg => by have := HD.out g hg; omega) (H.out.agree (Agree.of k0 HD.out))).mono ?_
  rintro e w1 ⟨rfl, q1⟩
  have k1 := k0.trans (q1.mono (Nat.le_of_lt s0))
  have X1 := X0.below q1 s0
  have l1 := X1.lt
  clear z0 z1
  have v1 := X1.cell 1 rfl
  by_cases hR : ¬ (measF 16 t).isSome = true
  · have hR' : (measF 16 t).isSome = false := by simpa using hR
    have HR : Hid (¬ (measF 16 t).isSome = true) := hR
    rw [hR']
    clear hR hR'
    go_wp2
    go_ret2
    exact ⟨0, false, rfl, Or.inr ⟨fun h => HR.out h.2.1, rfl, rfl⟩, k1⟩
  have hR : (measF 16 t).isSome = true := Decidable.not_not.1 hR
  have HR : Hid ((measF 16 t).isSome = true) := hR
  have hkl : t.kids.length = 1 := by
    obtain ⟨_, _, _, _, m3, _⟩ := measF_some hR
    have := HSZ.out
    omega
  have HKL : Hid (t.kids.length = 1) := hkl
  have hn2 : n2 = 1 := by have := HN2.out; omega
  subst hn2
  rw [hR]
  clear hR
  have hRow := H.out.2
  have hRl := hRow.len
  rw [← hRl] at hRow
  obtain ⟨g1, o1, rfl, hg1, hc1⟩ := hRow.ptr (by omega)
  obtain ⟨b1, d1, b2, d2, b3, d3, ⟨e0, e1, e2, e3, e4, e5⟩, hv⟩ := hc1 0 (by omega)
  have lg := HD.out g1 hg1
  have E0 := (k1.cell (p := ⟨g1, o1 + 0 * 6, none⟩) lg).trans e0
  have E1 := (k1.cell (p := ⟨g1, o1 + 0 * 6 + 1, none⟩) lg).trans e1
  have E2 := (k1.cell (p := ⟨g1, o1 + 0 * 6 + 2, none⟩) lg).trans e2
  have E3 := (k1.cell (p := ⟨g1, o1 + 0 * 6 + 3, none⟩) lg).trans e3
  rw [Nat.zero_mul, Nat.add_zero] at E0 E1 E2 E3
  have hv2 := hv.agree (Agree.of k1 HD.out)
  obtain ⟨x, hx⟩ : ∃ x, t.kids.getD 0 tr0 = x := ⟨_, rfl⟩
  have HX : Hid (t.kids.getD 0 tr0 = x) := hx
  rw [hx] at E0 E1 E2 E3 hv2
  have HV : Hid (ItV (ArV f D w1) D w1 b1 d1 b2 d2 b3 d3 x) := hv2
  clear hc1 e0 e1 e2 e3 e4 e5 hv hv2 hx hRow hRl hkl
  by_cases hk : ¬ x.k = 1
  · have ek : (x.k != 1) = true := by rw [bne_iff_ne]; exact hk
    have HK : Hid (¬ x.k = 1) := hk
    clear hk
    go_wp2
    go_ret2
    refine ⟨0, false, rfl, Or.inl ⟨⟨HKL.out, HR.out, by have := HSZ.out; omega⟩, Or.inr ⟨?_, rfl, rfl⟩⟩, k1⟩
    rw [HX.out]; exact HK.out
  have hk : x.k = 1 := Decidable.not_not.1 hk
  have HK : Hid (x.k = 1) := hk
  have ek : (x.k != 1) = false := by rw [hk]; rfl
  clear hk
  go_wp2_with fail
  have hD1 : ∀ g, D g → g < w1.heap.size := fun g hg => by have := HD.out g hg; have := k1.size; omega
  refine (refToInt_rat (b := x.b) (HV.out.rn.rd hD1) (HV.out.rd.rd hD1)).mono ?_
  rintro e w2 ⟨n, ok, rfl, ht, q2⟩
  clear hD1
  go_wp2
  go_ret2
  refine ⟨n, ok, rfl, Or.inl ⟨⟨HKL.out, HR.out, by have := HSZ.out; omega⟩, Or.inl ⟨?_, ?_⟩⟩, k1.trans (q2.mono k1.size)⟩
  · rw [HX.out]; exact HK.out
  · rw [HX.out]; exact ht.out
end
section
variable {D : Nat → Prop} {f : Nat} {W : World} {x1 : Option Addr} {n1 y1 : Nat} {x2 : Option Addr} {n2 y2 : Nat} {t : Tr}
set_option maxRecDepth 100000 in
set_option maxHeartbeats 16000000 in
theorem toInts3_any (hD : ∀ g, D g → g < W.heap.size) (h : ArV f D W (.slice x1 n1 y1) (.slice x2 n2 y2) t) : Calls Tryz.prog 6 #[.agg #[.slice x1 n1 y1, .slice x2 n2 y2]] W fun e w' => ∃ l a c ok, e = .returned (.tuple #[.slice a l.length c, .bool ok]) ∧ Hid (IntsOf t l ok) ∧ l.length ≤ 4096 ∧ Hid (RdN (Fr W.heap.size w'.heap.size) w' (.slice a l.length c) l) ∧ Below W.heap.size W w' := by
  obtain ⟨i0, hi0, hz0, hz1, hz2⟩ := info_parts info_int3
  obtain ⟨f, rfl⟩ : ∃ f', f = f' + 1 := by
    cases f with
    | zero => exact h.elim
    | succ f => exact ⟨f, rfl⟩
  have en1 := h.1.len
  have en2 := h.2.len
  have HN1 : Hid (n1 = t.ns.length) := en1
  have HN2 : Hid (n2 = t.kids.length) := en2
  have k0 := below_alloc W (.cells #[.slice x1 n1 y1, .slice x2 n2 y2] 25)
  have X0 := boxA_new W #[.slice x1 n1 y1, .slice x2 n2 y2] 25
  have s0 : W.heap.size < (W.alloc (.cells #[.slice x1 n1 y1, .slice x2 n2 y2] 25)).heap.size := by simp
  have z0 := X0.cell 0 rfl
  have z1 := X0.cell 1 rfl
  have H : Hid (ArV (f + 1) D W (.slice x1 n1 y1) (.slice x2 n2 y2) t) := h
  have HD : Hid (∀ g, D g → g < W.heap.size) := hD
  clear h hD en1 en2
  go_enter Tryz.func6, Tryz.ntmps6
  by_cases hax : ¬ t.ns.length ≤ 1
  · have hd : ((n1 : Int) > 1) = True := by have := HN1.out; simp; omega
    have hd' : (1 : Int) < (n1 : Int) := by have := HN1.out; omega
    have HAX : Hid (¬ t.ns.length ≤ 1) := hax
    clear hax
    go_wp2
    go_ret2
    exact ⟨[], none, 0, false, rfl, Or.inr ⟨fun h => HAX.out h.1, rfl, rfl⟩, by simp, ints_nil _ _, k0⟩
  have hax : t.ns.length ≤ 1 := Decidable.not_not.1 hax
  have HAX : Hid (t.ns.length ≤ 1) := hax
  have hd' : ¬ (1 : Int) < (n1 : Int) := by have := HN1.out; omega
  clear hax
  go_wp2_with fail
  generalize hA : W.alloc (.cells #[.slice x1 n1 y1, .slice x2 n2 y2] 25) = v at *
  clear hA
  have C1 := right3_any (fun g hg => by have := HD.out g hg; omega) (H.out.agree (Agree.of k0 HD.out))
  refine C1.mono ?_
  rintro e w1 ⟨rfl, q1⟩
  clear C1 z0 z1
  have X1 := X0.below q1 s0
  have l1 := X1.lt
  have k1 : Below W.heap.size W w1 := k0.trans (q1.mono (by omega))
  have v0 := X1.cell 0 rfl
  have v1 := X1.cell 1 rfl
  by_cases hR : ¬ (measF 16 t).isSome = true
  · have hR' : (measF 16 t).isSome = false := by simpa using hR
    have HR : Hid (¬ (measF 16 t).isSome = true) := hR
    rw [hR']
    clear hR hR'
    go_wp2
    go_ret2
    exact ⟨[], none, 0, false, rfl, Or.inr ⟨fun h => HR.out h.2, rfl, rfl⟩, by simp, ints_nil _ _, k1⟩
  have hR : (measF 16 t).isSome = true := Decidable.not_not.1 hR
  have HR : Hid ((measF 16 t).isSome = true) := hR
  rw [hR]
  have hk4 : n2 ≤ 4096 := by
    obtain ⟨_, _, _, _, _, m4, _⟩ := measF_some hR
    have := HN2.out
    omega
  have HMI : Hid (∀ x ∈ t.kids, (measI (measF 15) x).isSome = true) := by
    obtain ⟨L', hL, _, _, _, _, m5⟩ := measF_some hR
    obtain rfl : L' = 15 := by omega
    exact m5
  clear hR
  have C2 := isEmpty3_any (fun g hg => by have := HD.out g hg; omega) (H.out.agree (Agree.of k1 HD.out))
  go_wp2_with fail
  refine C2.mono ?_
  rintro e w2 ⟨rfl, q2⟩
  clear C2 v0 v1
  have X2 := X1.below q2 l1
  have l2 := X2.lt
  have k2 : Below W.heap.size W w2 := k1.trans (q2.mono (by omega))
  by_cases hz : (sizeF t.ns).1 = 0
  · have HZ : Hid ((sizeF t.ns).1 = 0) := hz
    rw [decide_eq_true hz]
    clear hz
    go_wp2
    go_ret2
    exact ⟨[], none, 0, true, rfl, Or.inl ⟨⟨HAX.out, HR.out⟩, Or.inl ⟨HZ.out, rfl, rfl⟩⟩, by simp, ints_nil _ _, k2⟩
  have HZ : Hid (¬ (sizeF t.ns).1 = 0) := hz
  rw [decide_eq_false hz]
  clear hz
  have u1 := X2.cell 1 rfl
  go_wp2_with fail
  go_loopw [4, 23] (fun ov iv wr => ∃ (i : Nat) (a : Option Addr) (c : Nat) (l : List Int), iv = .int .i64 i ∧ ov = .slice a i c ∧ i ≤ n2 ∧ l.length = i ∧ Hid (∀ j, j < i → TellsInt (t.kids.getD j tr0) (l.getD j 0) true) ∧ wr.ownsRow W.heap.size 3 1 (.slice a i c) i (l.map (Value.int .i64)) ∧ Below W.heap.size W wr) (fun _ iv _ => n2 - (intOf iv).toNat)
  case atStart => exact ⟨0, none, 0, [], rfl, rfl, Nat.zero_le _, rfl, (fun j hj => by omega), World.ownsRow_nil _ _ _ _, k2⟩
  case round =>
    obtain ⟨i, a, c, l, rfl, rfl, hil, hll, HT, ho, hbr⟩ := hrel
    have sb := hbr.size
    by_cases hlt : i < n2
    · have hR := H.out.2
      rw [← HN2.out] at hR
      obtain ⟨g1, o1, rfl, hg1, hc1⟩ := RowB.ptr hR (by omega)
      obtain ⟨b1, d1, b2, d2, b3, d3, ⟨e0, e1, e2, e3, e4, e5⟩, hv⟩ := hc1 i hlt
      have lg := HD.out g1 hg1
      obtain ⟨t', ht'⟩ : ∃ x, t.kids.getD i tr0 = x := ⟨_, rfl⟩
      have HTX : Hid (t.kids.getD i tr0 = t') := ht'
      rw [ht'] at e0 e1 e2 e3 e4 e5 hv
      have E0 := (hbr.cell (p := ⟨g1, o1 + i * 6, none⟩) lg).trans e0
      have E1 := (hbr.cell (p := ⟨g1, o1 + i * 6 + 1, none⟩) lg).trans e1
      have E2 := (hbr.cell (p := ⟨g1, o1 + i * 6 + 2, none⟩) lg).trans e2
      have E3 := (hbr.cell (p := ⟨g1, o1 + i * 6 + 3, none⟩) lg).trans e3
      have E4 := (hbr.cell (p := ⟨g1, o1 + i * 6 + 4, none⟩) lg).trans e4
      have E5 := (hbr.cell (p := ⟨g1, o1 + i * 6 + 5, none⟩) lg).trans e5
      have HV : Hid (ItV (ArV f D W) D W b1 d1 b2 d2 b3 d3 t') := hv
      clear hc1 e0 e1 e2 e3 e4 e5 hv ht' hR
      have kx := below_alloc wr (.cells #[.int .u8 t'.k, .bool t'.b, .slice b1 t'.ns.length d1, .slice b2 t'.ds.length d2, .int .i32 t'.c, .slice b3 t'.kids.length d3] 42)
      have BX := boxA_new wr #[.int .u8 t'.k, .bool t'.b, .slice b1 t'.ns.length d1, .slice b2 t'.ds.length d2, .int .i32 t'.c, .slice b3 t'.kids.length d3] 42
      have ho1 := ho.alloc (.cells #[.int .u8 t'.k, .bool t'.b, .slice b1 t'.ns.length d1, .slice b2 t'.ds.length d2, .int .i32 t'.c, .slice b3 t'.kids.length d3] 42)
      have hb1 := hbr.trans (kx.mono sb)
      have m0 := BX.cell 0 rfl
      have m1 := BX.cell 1 rfl
      have m2 := BX.cell 2 rfl
      have m3 := BX.cell 3 rfl
      have m4 := BX.cell 4 rfl
      have m5 := BX.cell 5 rfl
      have C := whole_any (fun g hg => by have := HD.out g hg; have := hb1.size; omega) (HV.out.agree (Agree.of hb1 HD.out))
      clear ho hbr
      go_wp2_with fail
      refine C.mono ?_
      rintro e w3 ⟨n, ok, rfl, HTI, k3⟩
      clear C m0 m1 m2 m3 m4 m5 BX
      have ho2 := row_below ho1 k3 (Nat.le_refl _)
      have hbb := hb1.trans (k3.mono hb1.size)
      have sz2 := hbb.size
      clear ho1 hb1 kx
      cases ok with
      | false =>
        go_wp2
        go_ret2
        exact ⟨[], none, 0, false, rfl, Or.inl ⟨⟨HAX.out, HR.out⟩, Or.inr ⟨HZ.out, Or.inr ⟨rfl, rfl, i, n, by have := HN2.out; omega, by rw [HTX.out]; exact HTI.out⟩⟩⟩, by simp, ints_nil _ _, hbb⟩
      | true =>
        have hnew := told_step hll HT.out (show TellsInt (t.kids.getD i tr0) n true by rw [HTX.out]; exact HTI.out)
        have HT2 : Hid (∀ j, j < i + 1 → TellsInt (t.kids.getD j tr0) ((l ++ [n]).getD j 0) true) := hnew.2
        have hll2 := hnew.1
        clear hnew HTI
        go_wp2_with (at_builtin; refine wpList_append_own _ rfl _ _ 22 rfl W.heap.size 3 i0 (.int .i64 0) 1 8 Tryz.underlying22 hi0 hz0 hz1 hz2 rfl (by decide) _ i (l.map (Value.int .i64)) rfl (ho2.alloc _) ⟨w3.heap.size, 0, none⟩ 1 1 [.int .i64 n] rfl rfl (cells_new w3 #[.int .i64 n] _) (by intro u hu; simp at hu; subst hu; rfl) (by unfold maxLen; omega) (by omega) (by simp; omega) ?_)
        intro v' w4 hown hgr _
        obtain ⟨a4, c4, rfl⟩ := row_form3 hown
        have hrow : ∀ k, (Value.slice a i c).ownBlock = some k → W.heap.size ≤ k := fun k e => (row_own ho2 k e).1
        have hb4 : Below W.heap.size W w4 := (hbb.trans ((below_alloc w3 (.cells #[.int .i64 n] 3)).mono sz2)).grown hgr (by simp; omega) hrow
        have HO4 : Hid (w4.ownsRow W.heap.size 3 1 (.slice a4 (i + 1) c4) (i + 1) ((l ++ [n]).map (Value.int .i64))) := by
          unfold Hid
          rw [List.map_append]
          simp only [List.map_cons, List.map_nil]
          exact hown
        clear hown hgr ho2
        go_wp2
        go_roundw
        case rel => exact ⟨i + 1, a4, c4, l ++ [n], by go_num, rfl, by omega, hll2, HT2, HO4.out, hb4⟩
        case measure => simp [intOf]; omega
    · obtain rfl : i = n2 := by omega
      have HLL : Hid (l.length = i) := hll
      have hin : ∀ x ∈ l, -9223372036854775808 ≤ x ∧ x ≤ 9223372036854775807 := fun x hx => by
        obtain ⟨j, hj, rfl⟩ := List.getElem_of_mem hx
        have := (HT.out j (by omega)).range
        rw [List.getD_eq_getElem?_getD, List.getElem?_eq_getElem hj] at this
        exact this
      have HO : Hid (RdN (Fr W.heap.size wr.heap.size) wr (.slice a i c) l) := by
        have := rdN_own (l := l) (a := a) (c := c) hin (by rw [hll]; exact ho)
        rw [hll] at this
        exact this
      clear ho hin
      go_wp2
      go_ret2
      refine ⟨l, a, c, true, by rw [HLL.out]; rfl, Or.inl ⟨⟨HAX.out, HR.out⟩, Or.inr ⟨HZ.out, Or.inl ⟨rfl, by have := HLL.out; have := HN2.out; omega, fun j hj => HT.out j (by have := HN2.out; omega)⟩⟩⟩, by have := HLL.out; omega, by rw [HLL.out]; exact HO.out, hbr⟩
end
section
variable {D : Nat → Prop} {f : Nat} {W : World} {x1 : Option Addr} {n1 y1 : Nat} {x2 : Option Addr} {n2 y2 : Nat} {t : Tr}
set_option maxRecDepth 100000 in
set_option maxHeartbeats 16000000 in
theorem refToInts3_any (hD : ∀ g, D g → g < W.heap.size) (h : ArV f D W (.slice x1 n1 y1) (.slice x2 n2 y2) t) (hS : smF f t) : Calls Tryz.prog 7 #[.agg #[.slice x1 n1 y1, .slice x2 n2 y2]] W fun e w' => ∃ l a c ok, e = .returned (.tuple #[.slice a l.length c, .bool ok]) ∧ Hid (IntsOf t l ok) ∧ l.length ≤ 4096 ∧ Hid (RdN (Fr W.heap.size w'.heap.size) w' (.slice a l.length c) l) ∧ Below W.heap.size W w' := by
  obtain ⟨i0, hi0, hz0, hz1, hz2⟩ := info_parts info_int3
  obtain ⟨f, rfl⟩ : ∃ f', f = f' + 1 := by
    cases f with
    | zero => exact h.elim
    | succ f => exact ⟨f, rfl⟩
  have en1 := h.1.len
  have en2 := h.2.len
  have HN1 : Hid (n1 = t.ns.length) := en1
  have HN2 : Hid (n2 = t.kids.length) := en2
  have k0 := below_alloc W (.cells #[.slice x1 n1 y1, .slice x2 n2 y2] 25)
  have X0 := boxA_new W #[.slice x1 n1 y1, .slice x2 n2 y2] 25
  have s0 : W.heap.size < (W.alloc (.cells #[.slice x1 n1 y1, .slice x2 n2 y2] 25)).heap.size := by simp
  have z0 := X0.cell 0 rfl
  have z1 := X0.cell 1 rfl
  have H : Hid (ArV (f + 1) D W (.slice x1 n1 y1) (.slice x2 n2 y2) t) := h
  have HD : Hid (∀ g, D g → g < W.heap.size) := hD
  have HSM : Hid (smF (f + 1) t) := hS
  clear h hD en1 en2 hS
  go_enter Tryz.func7, Tryz.ntmps7
  go_wp2_with fail
  generalize hA : W.alloc (.cells #[.slice x1 n1 y1, .slice x2 n2 y2] 25) = v at *
  clear hA
  have C1 := refRight3_any (fun g hg => by have := HD.out g hg; omega) (H.out.agree (Agree.of k0 HD.out))
  refine C1.mono ?_
  rintro e w1 ⟨rfl, q1⟩
  clear C1 z0 z1
  have X1 := X0.below q1 s0
  have l1 := X1.lt
  have k1 : Below W.heap.size W w1 := k0.trans (q1.mono (by omega))
  have v0 := X1.cell 0 rfl
  have v1 := X1.cell 1 rfl
  by_cases hR : ¬ (measF 16 t).isSome = true
  · have hR' : (measF 16 t).isSome = false := by simpa using hR
    have HR : Hid (¬ (measF 16 t).isSome = true) := hR
    rw [hR']
    clear hR hR'
    go_wp2
    go_ret2
    exact ⟨[], none, 0, false, rfl, Or.inr ⟨fun h => HR.out h.2, rfl, rfl⟩, by simp, ints_nil _ _, k1⟩
  have hR : (measF 16 t).isSome = true := Decidable.not_not.1 hR
  have HR : Hid ((measF 16 t).isSome = true) := hR
  rw [hR]
  have hk4 : n2 ≤ 4096 := by
    obtain ⟨_, _, _, _, _, m4, _⟩ := measF_some hR
    have := HN2.out
    omega
  clear hR
  by_cases hax : ¬ t.ns.length ≤ 1
  · have hd' : (1 : Int) < (n1 : Int) := by have := HN1.out; omega
    have HAX : Hid (¬ t.ns.length ≤ 1) := hax
    clear hax
    go_wp2
    go_ret2
    exact ⟨[], none, 0, false, rfl, Or.inr ⟨fun h => HAX.out h.1, rfl, rfl⟩, by simp, ints_nil _ _, k1⟩
  have hax : t.ns.length ≤ 1 := Decidable.not_not.1 hax
  have HAX : Hid (t.ns.length ≤ 1) := hax
  have hd' : ¬ (1 : Int) < (n1 : Int) := by have := HN1.out; omega
  clear hax
  have C2 := refItems3_any (fun g hg => by have := HD.out g hg; omega) (H.out.agree (Agree.of k1 HD.out)) HSM.out HR.out
  go_wp2_with fail
  refine C2.mono ?_
  rintro e w2 ⟨hcase, q2⟩
  clear C2 v0 v1
  have k2 : Below W.heap.size W w2 := k1.trans (q2.mono (by omega))
  rcases hcase with ⟨hz, rfl⟩ | ⟨hz, p1, r1, u1, p2, r2, u2, rfl, hv⟩
  · have HZ : Hid ((sizeF t.ns).1 = 0) := hz
    clear hz
    go_wp2
    go_loopw [4, 6] (fun ov iv wr => iv = .int .i64 0 ∧ ov = .slice none 0 0 ∧ wr = w2) (fun _ _ _ => 0)
    case atStart => exact ⟨rfl, rfl, rfl⟩
    case round =>
      obtain ⟨rfl, rfl, rfl⟩ := hrel
      go_wp2
      go_ret2
      exact ⟨[], none, 0, true, rfl, Or.inl ⟨⟨HAX.out, HR.out⟩, Or.inl ⟨HZ.out, rfl, rfl⟩⟩, by simp, ints_nil _ _, k2⟩
  have HZ : Hid (¬ (sizeF t.ns).1 = 0) := hz
  have er2 := hv.2.len
  have hr2 : r2 = n2 := by have := HN2.out; omega
  subst hr2
  have HV2 : Hid (ArV (f + 1) (Fr w1.heap.size w2.heap.size) w2 (.slice p1 r1 u1) (.slice p2 r2 u2) t) := hv
  have s2 := k2.size
  have s1 := k1.size
  clear hv er2 hz
  go_wp2
  go_loopw [4, 6] (fun ov iv wr => ∃ (i : Nat) (a : Option Addr) (c : Nat) (l : List Int), iv = .int .i64 i ∧ ov = .slice a i c ∧ i ≤ r2 ∧ l.length = i ∧ Hid (∀ j, j < i → TellsInt (t.kids.getD j tr0) (l.getD j 0) true) ∧ wr.ownsRow w2.heap.size 3 1 (.slice a i c) i (l.map (Value.int .i64)) ∧ Below w2.heap.size w2 wr) (fun _ iv _ => r2 - (intOf iv).toNat)
  case atStart => exact ⟨0, none, 0, [], rfl, rfl, Nat.zero_le _, rfl, (fun j hj => by omega), World.ownsRow_nil _ _ _ _, Below.refl _ _⟩
  case round =>
    obtain ⟨i, a, c, l, rfl, rfl, hil, hll, HT, ho, hbr⟩ := hrel
    have sb := hbr.size
    by_cases hlt : i < r2
    · have hR := HV2.out.2
      rw [← HN2.out] at hR
      obtain ⟨g1, o1, rfl, hg1, hc1⟩ := RowB.ptr hR (by omega)
      have bdU := RowB.bounds hR
      obtain ⟨b1, d1, b2, d2, b3, d3, ⟨e0, e1, e2, e3, e4, e5⟩, hv⟩ := hc1 i hlt
      have lg := hg1.2
      obtain ⟨t', ht'⟩ : ∃ x, t.kids.getD i tr0 = x := ⟨_, rfl⟩
      have HTX : Hid (t.kids.getD i tr0 = t') := ht'
      rw [ht'] at e0 e1 e2 e3 e4 e5 hv
      have E0 := (hbr.cell (p := ⟨g1, o1 + i * 6, none⟩) lg).trans e0
      have E1 := (hbr.cell (p := ⟨g1, o1 + i * 6 + 1, none⟩) lg).trans e1
      have E2 := (hbr.cell (p := ⟨g1, o1 + i * 6 + 2, none⟩) lg).trans e2
      have E3 := (hbr.cell (p := ⟨g1, o1 + i * 6 + 3, none⟩) lg).trans e3
      have hvr := hv.agree (Agree.of hbr (fun g hg => hg.2))
      have HV : Hid (ItV (ArV f (Fr w1.heap.size w2.heap.size) wr) (Fr w1.heap.size w2.heap.size) wr b1 d1 b2 d2 b3 d3 t') := hvr
      clear hc1 e0 e1 e2 e3 e4 e5 hv ht' hR hvr
      by_cases hk : ¬ t'.k = 1
      · have ek : (t'.k != 1) = true := by rw [bne_iff_ne]; exact hk
        have HK : Hid (¬ t'.k = 1) := hk
        clear hk
        go_wp2
        go_ret2
        exact ⟨[], none, 0, false, rfl, Or.inl ⟨⟨HAX.out, HR.out⟩, Or.inr ⟨HZ.out, Or.inr ⟨rfl, rfl, i, 0, by have := HN2.out; omega, by rw [HTX.out]; exact Or.inr ⟨HK.out, rfl, rfl⟩⟩⟩⟩, by simp, ints_nil _ _, k2.trans (hbr.mono s2)⟩
      have hk : t'.k = 1 := Decidable.not_not.1 hk
      have HK : Hid (t'.k = 1) := hk
      have ek : (t'.k != 1) = false := by rw [hk]; rfl
      clear hk
      have hDr : ∀ g, Fr w1.heap.size w2.heap.size g → g < wr.heap.size := fun g hg => by have := hg.2; omega
      have C := refToInt_rat (b := t'.b) (HV.out.rn.rd hDr) (HV.out.rd.rd hDr)
      clear hDr
      go_wp2_with fail
      refine C.mono ?_
      rintro e w3 ⟨n, ok, rfl, HTI, k3⟩
      clear C E0 E1 E2 E3
      have ho2 := row_below ho k3 (Nat.le_refl _)
      have hbb := hbr.trans (k3.mono hbr.size)
      have sz2 := hbb.size
      have hti : TellsInt (t.kids.getD i tr0) n ok := by rw [HTX.out]; exact Or.inl ⟨HK.out, HTI.out⟩
      have HTE : Hid (TellsInt (t.kids.getD i tr0) n ok) := hti
      clear ho HTI hti
      cases ok with
      | false =>
        go_wp2
        go_ret2
        exact ⟨[], none, 0, false, rfl, Or.inl ⟨⟨HAX.out, HR.out⟩, Or.inr ⟨HZ.out, Or.inr ⟨rfl, rfl, i, n, by have := HN2.out; omega, HTE.out⟩⟩⟩, by simp, ints_nil _ _, k2.trans (hbb.mono s2)⟩
      | true =>
        have hnew := told_step hll HT.out HTE.out
        have HT2 : Hid (∀ j, j < i + 1 → TellsInt (t.kids.getD j tr0) ((l ++ [n]).getD j 0) true) := hnew.2
        have hll2 := hnew.1
        clear hnew HTE
        go_wp2_with (at_builtin; refine wpList_append_own _ rfl _ _ 22 rfl w2.heap.size 3 i0 (.int .i64 0) 1 8 Tryz.underlying22 hi0 hz0 hz1 hz2 rfl (by decide) _ i (l.map (Value.int .i64)) rfl (ho2.alloc _) ⟨w3.heap.size, 0, none⟩ 1 1 [.int .i64 n] rfl rfl (cells_new w3 #[.int .i64 n] _) (by intro u hu; simp at hu; subst hu; rfl) (by unfold maxLen; omega) (by omega) (by simp; omega) ?_)
        intro v' w4 hown hgr _
        obtain ⟨a4, c4, rfl⟩ := row_form3 hown
        have hrow : ∀ k, (Value.slice a i c).ownBlock = some k → w2.heap.size ≤ k := fun k e => (row_own ho2 k e).1
        have hb4 : Below w2.heap.size w2 w4 := (hbb.trans ((below_alloc w3 (.cells #[.int .i64 n] 3)).mono sz2)).grown hgr (by simp; omega) hrow
        have HO4 : Hid (w4.ownsRow w2.heap.size 3 1 (.slice a4 (i + 1) c4) (i + 1) ((l ++ [n]).map (Value.int .i64))) := by
          unfold Hid
          rw [List.map_append]
          simp only [List.map_cons, List.map_nil]
          exact hown
        clear hown hgr ho2
        go_wp2
        go_roundw
        case rel => exact ⟨i + 1, a4, c4, l ++ [n], by go_num, rfl, by omega, hll2, HT2, HO4.out, hb4⟩
        case measure => simp [intOf]; omega
    · obtain rfl : i = r2 := by omega
      have HLL : Hid (l.length = i) := hll
      have hin : ∀ x ∈ l, -9223372036854775808 ≤ x ∧ x ≤ 9223372036854775807 := fun x hx => by
        obtain ⟨j, hj, rfl⟩ := List.getElem_of_mem hx
        have := (HT.out j (by omega)).range
        rw [List.getD_eq_getElem?_getD, List.getElem?_eq_getElem hj] at this
        exact this
      have HO : Hid (RdN (Fr w2.heap.size wr.heap.size) wr (.slice a i c) l) := by
        have := rdN_own (l := l) (a := a) (c := c) hin (by rw [hll]; exact ho)
        rw [hll] at this
        exact this
      clear ho hin
      go_wp2
      go_ret2
      refine ⟨l, a, c, true, by rw [HLL.out]; rfl, Or.inl ⟨⟨HAX.out, HR.out⟩, Or.inr ⟨HZ.out, Or.inl ⟨rfl, by have := HLL.out; have := HN2.out; omega, fun j hj => HT.out j (by have := HN2.out; omega)⟩⟩⟩, by have := HLL.out; omega, ?_, k2.trans (hbr.mono s2)⟩
      rw [HLL.out]
      exact HO.out.imp (fun g hg => ⟨by have := hg.1; omega, hg.2⟩) (fun _ _ => rfl)
end
end Go.Proofs.YtnlmjibdifbnbaaGreat

/- WriteRune; ToText of any array, both. -/
namespace Go.Proofs.YtnlmjibdifbnbaaGreat
set_option linter.unusedVariables false
set_option linter.unusedSimpArgs false
open Go.RowKit

set_option maxHeartbeats 2000000 in
set_option maxRecDepth 100000 in
theorem writeRune_any (B b : Nat) (bs : List Value) (r : Int) (w : World) (hr0 : -2147483648 ≤ r) (hr1 : r ≤ 2147483647) (h : Lib.IsBuilder 51 5 B b bs w) (hlen : bs.length + 4 ≤ 140737488355328) (hBw : B ≤ w.heap.size) :
    Calls Tryz.prog 20 #[.pointer (some ⟨b, 0, none⟩), .int .i32 r] w fun e w' => (∃ k, e = .returned (.tuple #[.int .i64 k, .nilIface])) ∧ (Lib.BuilderAt 51 5 B b (.pointer (some ⟨b, 0, none⟩)) (bs ++ Lib.runeCells r) w' ∧ Below B w w') := by
  go_enter Tryz.func20, Tryz.ntmps20
  go_wp2_with (go_at_call 38; refine (copyCheck_any B b bs _ h).mono ?_)
  rintro e w1 ⟨rfl, h1, hb1⟩
  obtain ⟨hB, v, hbk, hown, hne⟩ := h1
  have c0 : w1.cell? ⟨b, 0, none⟩ = some (.pointer (some ⟨b, 0, none⟩)) := by rw [Lib.cell_of_heap hbk]; rfl
  obtain ⟨ao1, cap1, rfl⟩ : ∃ ao cap, v = .slice ao bs.length cap := by
    rcases hown.2 with ⟨hv, hz⟩ | ⟨g, cap, cur, hv, _⟩
    · exact ⟨none, 0, by rw [hv, hz]⟩
    · exact ⟨_, _, hv⟩
  have c1 : w1.cell? ⟨b, 1, none⟩ = some (.slice ao1 bs.length cap1) := by rw [Lib.cell_of_heap hbk]; rfl
  go_wp2_with (go_at_call 39; refine (Tryz.utf8_AppendRune_plain B _ bs.length bs r hr0 hr1 w1 hown (by omega) (by have := hb1.size; omega)).mono ?_)
  rintro e w2 ⟨v', rfl, hown', o, hgrow⟩
  have hlt : b < w1.heap.size := lt_of_block hbk
  have hb2 : w2.heap[b]? = some (.cells #[.pointer (some ⟨b, 0, none⟩), .slice ao1 bs.length cap1] 51 (0, 0)) := by
    rw [hgrow.block b (by simp; omega) (fun e => hne e.symm)]
    rw [(below_alloc w1 o).block b hlt]
    exact hbk
  have d0 : w2.cell? ⟨b, 0, none⟩ = some (.pointer (some ⟨b, 0, none⟩)) := by rw [Lib.cell_of_heap hb2]; rfl
  have d1 : w2.cell? ⟨b, 1, none⟩ = some (.slice ao1 bs.length cap1) := by rw [Lib.cell_of_heap hb2]; rfl
  have f1 : w2.frozen? ⟨b, 1, none⟩ = false := Lib.frozen_of_heap hb2 1
  obtain ⟨ao, n', cap, rfl⟩ : ∃ ao n' cap, v' = .slice ao n' cap := by
    rcases hown'.2 with ⟨hv, _⟩ | ⟨g, cap, cur, hv, _⟩
    · exact ⟨_, _, _, hv⟩
    · exact ⟨_, _, _, hv⟩
  have hR1 := hgrow
  go_wp2
  go_ret2
  refine ⟨⟨_, rfl⟩, ?_, ?_⟩
  · exact Lib.BuilderAt.put (T := 51) (e := 5) hB hb2 (bs' := bs ++ Lib.runeCells r) (by simpa using hown') (by decide)
  · exact ((hb1.trans ((below_alloc w1 o).mono (Nat.le_trans hBw hb1.size))).grown hgrow (by have := hb1.size; simp; omega) (fun k hk => (hown.lt k hk).1)).setCell (p := ⟨b, 1, none⟩) hB _
theorem builder_alloc {T e B b : Nat} {bs : List Value} {w : World} (h : Lib.IsBuilder T e B b bs w) (o : Obj) : Lib.IsBuilder T e B b bs (w.alloc o) := by
  rcases h with ⟨h1, v, h2, h3, h4⟩ | ⟨h1, v, h2, h3, h4⟩
  · exact Or.inl ⟨h1, v, by rw [Lib.alloc_old w o b (lt_of_block h2)]; exact h2, h3.alloc o, h4⟩
  · exact Or.inr ⟨h1, v, by rw [Lib.alloc_old w o b (lt_of_block h2)]; exact h2, h3.alloc o, h4⟩
/-- The bytes of a character, both ways. -/
theorem enc_same (c : Int) (hc : okRune c) : Lib.encodeRune c = (Utf8.encode c).data.toList := by
  have hr := okRune_le hc
  have h0 : 0 ≤ c := by unfold okRune at hc; omega
  obtain ⟨n, rfl⟩ : ∃ n : Nat, c = (n : Int) := ⟨c.toNat, by omega⟩
  rw [enc_list _ hc]
  rw [Int.toNat_natCast] at hr ⊢
  unfold Lib.encodeRune
  by_cases h1 : n < 128
  · rw [if_pos h1, Lib.encodeRuneZ_one (by omega) (by omega)]; simp [Nat.toUInt8]
  rw [if_neg h1]
  by_cases h2 : n < 2048
  · rw [if_pos h2, Lib.encodeRuneZ_two (by omega) (by omega)]
    have e1 : ((192 : Int) + (n : Int) / 64).toNat = 192 + n / 64 := by omega
    have e2 : ((128 : Int) + (n : Int) % 64).toNat = 128 + n % 64 := by omega
    simp only [List.map_cons, List.map_nil, e1, e2, Nat.toUInt8]
  rw [if_neg h2]
  by_cases h3 : n < 65536
  · rw [if_pos h3, Lib.encodeRuneZ_three (by omega)]
    have e1 : ((224 : Int) + (n : Int) / 4096).toNat = 224 + n / 4096 := by omega
    have e2 : ((128 : Int) + (n : Int) / 64 % 64).toNat = 128 + n / 64 % 64 := by omega
    have e3 : ((128 : Int) + (n : Int) % 64).toNat = 128 + n % 64 := by omega
    simp only [List.map_cons, List.map_nil, e1, e2, e3, Nat.toUInt8]
  rw [if_neg h3, Lib.encodeRuneZ_four (by omega) (by omega)]
  have e1 : ((240 : Int) + (n : Int) / 262144).toNat = 240 + n / 262144 := by omega
  have e2 : ((128 : Int) + (n : Int) / 4096 % 64).toNat = 128 + n / 4096 % 64 := by omega
  have e3 : ((128 : Int) + (n : Int) / 64 % 64).toNat = 128 + n / 64 % 64 := by omega
  have e4 : ((128 : Int) + (n : Int) % 64).toNat = 128 + n % 64 := by omega
  simp only [List.map_cons, List.map_nil, e1, e2, e3, e4, Nat.toUInt8]
/-- The bytes of characters. -/
def encL (cs : List Int) : List UInt8 := cs.flatMap Lib.encodeRune
theorem runes_step (cs : List Int) (c : Int) (h : okRune c) (l : List UInt8) (hl : runesBytes cs = ⟨l.toArray⟩) : runesBytes (cs ++ [c]) = ⟨(l ++ Lib.encodeRune c).toArray⟩ := by
  unfold runesBytes at hl ⊢
  rw [List.foldl_append, hl, enc_same c h]
  simp only [List.foldl_cons, List.foldl_nil]
  apply ByteArray.ext
  simp
/-- What is told of items as characters. -/
def CharsTold (ks : List Tr) (cs : List Int) (ok : Bool) : Prop := (ok = true ∧ cs.length = ks.length ∧ ∀ j, j < ks.length → (ks.getD j tr0).k = 2 ∧ cs.getD j 0 = (ks.getD j tr0).c) ∨ (ok = false ∧ cs = [] ∧ ∃ j, j < ks.length ∧ ¬ (ks.getD j tr0).k = 2)
theorem CharsTold.unique {ks : List Tr} {l m : List Int} {ok fine : Bool} (h : CharsTold ks l ok) (k : CharsTold ks m fine) : m = l ∧ fine = ok := by
  rcases h with ⟨rfl, h1, h2⟩ | ⟨rfl, rfl, j, hj, h2⟩ <;> rcases k with ⟨rfl, k1, k2⟩ | ⟨rfl, rfl, i, hi, k2⟩
  · refine ⟨List.ext_getElem (by omega) fun i h3 h4 => ?_, rfl⟩
    have := (k2 i (by omega)).2.trans (h2 i (by omega)).2.symm
    rw [List.getD_eq_getElem?_getD, List.getD_eq_getElem?_getD, List.getElem?_eq_getElem h3, List.getElem?_eq_getElem h4] at this
    exact this
  · exact absurd (h2 i hi).1 k2
  · exact absurd (k2 j hj).1 h2
  · exact ⟨rfl, rfl⟩
def CharsOf (t : Tr) (l : List Int) (ok : Bool) : Prop := ((t.ns.length ≤ 1 ∧ (measF 16 t).isSome = true) ∧ (((sizeF t.ns).1 = 0 ∧ l = [] ∧ ok = true) ∨ (¬ (sizeF t.ns).1 = 0 ∧ CharsTold t.kids l ok))) ∨ (¬ (t.ns.length ≤ 1 ∧ (measF 16 t).isSome = true) ∧ l = [] ∧ ok = false)
theorem CharsOf.unique {t : Tr} {l m : List Int} {ok fine : Bool} (h : CharsOf t l ok) (k : CharsOf t m fine) : m = l ∧ fine = ok := by
  rcases h with ⟨h1, h⟩ | ⟨h1, rfl, rfl⟩ <;> rcases k with ⟨k1, k⟩ | ⟨k1, rfl, rfl⟩
  · rcases h with ⟨h2, rfl, rfl⟩ | ⟨h2, h⟩ <;> rcases k with ⟨k2, rfl, rfl⟩ | ⟨k2, k⟩
    · exact ⟨rfl, rfl⟩
    · exact absurd h2 k2
    · exact absurd k2 h2
    · exact h.unique k
  · exact absurd h1 k1
  · exact absurd k1 h1
  · exact ⟨rfl, rfl⟩
theorem chars_step {ks : List Tr} {l : List Int} {i : Nat} (hl : l.length = i) (h : ∀ j, j < i → (ks.getD j tr0).k = 2 ∧ l.getD j 0 = (ks.getD j tr0).c) (hk : (ks.getD i tr0).k = 2) : (l ++ [(ks.getD i tr0).c]).length = i + 1 ∧ ∀ j, j < i + 1 → (ks.getD j tr0).k = 2 ∧ (l ++ [(ks.getD i tr0).c]).getD j 0 = (ks.getD j tr0).c := by
  refine ⟨by simp [hl], fun j hj => ?_⟩
  by_cases hji : j = i
  · subst hji
    have : (l ++ [(ks.getD j tr0).c]).getD j 0 = (ks.getD j tr0).c := by simp [List.getD_eq_getElem?_getD, hl]
    exact ⟨hk, this⟩
  · have : (l ++ [(ks.getD i tr0).c]).getD j 0 = l.getD j 0 := by simp [List.getD_eq_getElem?_getD, List.getElem?_append_left (show j < l.length by omega)]
    rw [this]; exact h j (by omega)
section
variable {D : Nat → Prop} {f : Nat} {W : World} {x1 : Option Addr} {n1 y1 : Nat} {x2 : Option Addr} {n2 y2 : Nat} {t : Tr}
set_option maxRecDepth 100000 in
set_option maxHeartbeats 16000000 in
theorem toText3_any (hD : ∀ g, D g → g < W.heap.size) (h : ArV f D W (.slice x1 n1 y1) (.slice x2 n2 y2) t) : Calls Tryz.prog 8 #[.agg #[.slice x1 n1 y1, .slice x2 n2 y2]] W fun e w' => ∃ cs ok, e = .returned (.tuple #[.string (runesBytes cs), .bool ok]) ∧ Hid (CharsOf t cs ok) ∧ Below W.heap.size W w' := by
  obtain ⟨f, rfl⟩ : ∃ f', f = f' + 1 := by
    cases f with
    | zero => exact h.elim
    | succ f => exact ⟨f, rfl⟩
  have en1 := h.1.len
  have en2 := h.2.len
  have HN1 : Hid (n1 = t.ns.length) := en1
  have HN2 : Hid (n2 = t.kids.length) := en2
  have k0 := below_alloc W (.cells #[.slice x1 n1 y1, .slice x2 n2 y2] 25)
  have X0 := boxA_new W #[.slice x1 n1 y1, .slice x2 n2 y2] 25
  have s0 : W.heap.size < (W.alloc (.cells #[.slice x1 n1 y1, .slice x2 n2 y2] 25)).heap.size := by simp
  have z0 := X0.cell 0 rfl
  have z1 := X0.cell 1 rfl
  have H : Hid (ArV (f + 1) D W (.slice x1 n1 y1) (.slice x2 n2 y2) t) := h
  have HD : Hid (∀ g, D g → g < W.heap.size) := hD
  clear h hD en1 en2
  go_enter Tryz.func8, Tryz.ntmps8
  by_cases hax : ¬ t.ns.length ≤ 1
  · have hd : ((n1 : Int) > 1) = True := by have := HN1.out; simp; omega
    have hd' : (1 : Int) < (n1 : Int) := by have := HN1.out; omega
    have HAX : Hid (¬ t.ns.length ≤ 1) := hax
    clear hax
    go_wp2
    go_ret2
    exact ⟨[], false, rfl, Or.inr ⟨fun h => HAX.out h.1, rfl, rfl⟩, k0⟩
  have hax : t.ns.length ≤ 1 := Decidable.not_not.1 hax
  have HAX : Hid (t.ns.length ≤ 1) := hax
  have hd' : ¬ (1 : Int) < (n1 : Int) := by have := HN1.out; omega
  clear hax
  go_wp2_with fail
  generalize hA : W.alloc (.cells #[.slice x1 n1 y1, .slice x2 n2 y2] 25) = v at *
  clear hA
  have C1 := right3_any (fun g hg => by have := HD.out g hg; omega) (H.out.agree (Agree.of k0 HD.out))
  refine C1.mono ?_
  rintro e w1 ⟨rfl, q1⟩
  clear C1 z0 z1
  have X1 := X0.below q1 s0
  have l1 := X1.lt
  have k1 : Below W.heap.size W w1 := k0.trans (q1.mono (by omega))
  have v0 := X1.cell 0 rfl
  have v1 := X1.cell 1 rfl
  by_cases hR : ¬ (measF 16 t).isSome = true
  · have hR' : (measF 16 t).isSome = false := by simpa using hR
    have HR : Hid (¬ (measF 16 t).isSome = true) := hR
    rw [hR']
    clear hR hR'
    go_wp2
    go_ret2
    exact ⟨[], false, rfl, Or.inr ⟨fun h => HR.out h.2, rfl, rfl⟩, k1⟩
  have hR : (measF 16 t).isSome = true := Decidable.not_not.1 hR
  have HR : Hid ((measF 16 t).isSome = true) := hR
  rw [hR]
  have hk4 : n2 ≤ 4096 := by
    obtain ⟨_, _, _, _, _, m4, _⟩ := measF_some hR
    have := HN2.out
    omega
  have HMI : Hid (∀ x ∈ t.kids, (measI (measF 15) x).isSome = true) := by
    obtain ⟨L', hL, _, _, _, _, m5⟩ := measF_some hR
    obtain rfl : L' = 15 := by omega
    exact m5
  clear hR
  have C2 := isEmpty3_any (fun g hg => by have := HD.out g hg; omega) (H.out.agree (Agree.of k1 HD.out))
  go_wp2_with fail
  refine C2.mono ?_
  rintro e w2 ⟨rfl, q2⟩
  clear C2 v0 v1
  have X2 := X1.below q2 l1
  have l2 := X2.lt
  have k2 : Below W.heap.size W w2 := k1.trans (q2.mono (by omega))
  by_cases hz : (sizeF t.ns).1 = 0
  · have HZ : Hid ((sizeF t.ns).1 = 0) := hz
    rw [decide_eq_true hz]
    clear hz
    go_wp2
    go_ret2
    exact ⟨[], true, rfl, Or.inl ⟨⟨HAX.out, HR.out⟩, Or.inl ⟨HZ.out, rfl, rfl⟩⟩, k2⟩
  have HZ : Hid (¬ (sizeF t.ns).1 = 0) := hz
  rw [decide_eq_false hz]
  clear hz
  have u1 := X2.cell 1 rfl
  have kb := below_alloc w2 (.cells #[.pointer none, .slice none 0 0] 51)
  have hbb0 : (w2.alloc (.cells #[.pointer none, .slice none 0 0] 51)).heap[w2.heap.size]? = some (.cells #[.pointer none, .slice none 0 0] 51) := heap_alloc_new w2 (.cells #[.pointer none, .slice none 0 0] 51)
  have hB0 : Lib.IsBuilder 51 5 w2.heap.size w2.heap.size [] (w2.alloc (.cells #[.pointer none, .slice none 0 0] 51)) := Or.inl ⟨Nat.le_refl _, _, hbb0, World.ownsRow_nil _ _ _ _, by simp [Value.ownBlock]⟩
  have sb0 : w2.heap.size < (w2.alloc (.cells #[.pointer none, .slice none 0 0] 51)).heap.size := by simp
  have X3 := X2.below kb l2
  have u3 := X3.cell 1 rfl
  have s2 := k2.size
  clear u1
  go_wp2_with fail
  generalize hA : w2.alloc (.cells #[.pointer none, .slice none 0 0] 51) = w3 at *
  clear hA hbb0
  have k3 : Below W.heap.size W w3 := k2.trans (kb.mono s2)
  go_loopw [21] (fun iv wr => ∃ (i : Nat) (cs : List Int) (l : List UInt8), iv = .int .i64 i ∧ i ≤ n2 ∧ cs.length = i ∧ Hid (∀ j, j < i → (t.kids.getD j tr0).k = 2 ∧ cs.getD j 0 = (t.kids.getD j tr0).c) ∧ Hid (runesBytes cs = ⟨l.toArray⟩) ∧ l.length ≤ 4 * i ∧ Lib.IsBuilder 51 5 w2.heap.size w2.heap.size (Lib.byteCells l) wr ∧ Below w2.heap.size w3 wr) (fun iv _ => n2 - (intOf iv).toNat)
  case atStart => exact ⟨0, [], [], rfl, Nat.zero_le _, rfl, (fun j hj => by omega), rfl, by simp, hB0, Below.refl _ _⟩
  case round =>
    obtain ⟨i, cs, l, rfl, hil, hll, HT, HRB, hl4, hB, hbr3⟩ := hrel
    have sb3 := hbr3.size
    have hbr : Below W.heap.size W wr := k3.trans (hbr3.mono s2)
    have sb := hbr.size
    by_cases hlt : i < n2
    · have hR := H.out.2
      rw [← HN2.out] at hR
      obtain ⟨g1, o1, rfl, hg1, hc1⟩ := RowB.ptr hR (by omega)
      obtain ⟨b1, d1, b2, d2, b3, d3, ⟨e0, e1, e2, e3, e4, e5⟩, hv⟩ := hc1 i hlt
      have lg := HD.out g1 hg1
      obtain ⟨t', ht'⟩ : ∃ x, t.kids.getD i tr0 = x := ⟨_, rfl⟩
      have HTX : Hid (t.kids.getD i tr0 = t') := ht'
      rw [ht'] at e0 e1 e2 e3 e4 e5
      have E0 := (hbr.cell (p := ⟨g1, o1 + i * 6, none⟩) lg).trans e0
      have E1 := (hbr.cell (p := ⟨g1, o1 + i * 6 + 1, none⟩) lg).trans e1
      have E2 := (hbr.cell (p := ⟨g1, o1 + i * 6 + 2, none⟩) lg).trans e2
      have E3 := (hbr.cell (p := ⟨g1, o1 + i * 6 + 3, none⟩) lg).trans e3
      have E4 := (hbr.cell (p := ⟨g1, o1 + i * 6 + 4, none⟩) lg).trans e4
      have E5 := (hbr.cell (p := ⟨g1, o1 + i * 6 + 5, none⟩) lg).trans e5
      clear hc1 e0 e1 e2 e3 e4 e5 hv ht' hR
      have kx := below_alloc wr (.cells #[.int .u8 t'.k, .bool t'.b, .slice b1 t'.ns.length d1, .slice b2 t'.ds.length d2, .int .i32 t'.c, .slice b3 t'.kids.length d3] 42)
      have BX := boxA_new wr #[.int .u8 t'.k, .bool t'.b, .slice b1 t'.ns.length d1, .slice b2 t'.ds.length d2, .int .i32 t'.c, .slice b3 t'.kids.length d3] 42
      have m0 := BX.cell 0 rfl
      have m4 := BX.cell 4 rfl
      by_cases hk : ¬ t'.k = 2
      · have ek : (t'.k != 2) = true := by rw [bne_iff_ne]; exact hk
        have HK : Hid (¬ t'.k = 2) := hk
        clear hk
        go_wp2
        go_ret2
        exact ⟨[], false, rfl, Or.inl ⟨⟨HAX.out, HR.out⟩, Or.inr ⟨HZ.out, Or.inr ⟨rfl, rfl, i, by have := HN2.out; omega, by rw [HTX.out]; exact HK.out⟩⟩⟩, hbr.trans (kx.mono sb)⟩
      have hk : t'.k = 2 := Decidable.not_not.1 hk
      have HK : Hid (t'.k = 2) := hk
      have ek : (t'.k != 2) = false := by rw [hk]; rfl
      have hok : okR t'.c := by
        have hm := HMI.out _ (getD_memI (l := t.kids) (j := i) (by have := HN2.out; omega))
        rw [HTX.out] at hm
        rcases measI_cases hm with ⟨h1, _⟩ | ⟨_, h2, _⟩ | ⟨h1, _⟩
        · rw [hk] at h1; exact absurd h1 (by decide)
        · exact h2
        · rw [hk] at h1; exact absurd h1 (by decide)
      have HOK : Hid (okRune t'.c) := hok
      have hr0 : -2147483648 ≤ t'.c := by unfold okR at hok; omega
      have hr1 : t'.c ≤ 2147483647 := by unfold okR at hok; omega
      have hnew := chars_step hll HT.out (by rw [HTX.out]; exact hk)
      rw [HTX.out] at hnew
      have HT2 : Hid (∀ j, j < i + 1 → (t.kids.getD j tr0).k = 2 ∧ (cs ++ [t'.c]).getD j 0 = (t.kids.getD j tr0).c) := hnew.2
      have hll2 := hnew.1
      have HRB2 : Hid (runesBytes (cs ++ [t'.c]) = ⟨(l ++ Lib.encodeRune t'.c).toArray⟩) := runes_step cs t'.c hok l HRB.out
      have hB1 : Lib.IsBuilder 51 5 w2.heap.size w2.heap.size (Lib.byteCells l) (wr.alloc (.cells #[.int .u8 t'.k, .bool t'.b, .slice b1 t'.ns.length d1, .slice b2 t'.ds.length d2, .int .i32 t'.c, .slice b3 t'.kids.length d3] 42)) := builder_alloc hB _
      have hbl : (Lib.byteCells l).length = l.length := by simp [Lib.byteCells]
      have hel := Lib.encodeRuneZ_length t'.c
      have hel2 : (Lib.encodeRune t'.c).length ≤ 4 := by unfold Lib.encodeRune; rw [List.length_map]; exact hel.2
      clear hnew hk hok hel
      go_wp2_with (go_at_call 20; refine (writeRune_any w2.heap.size w2.heap.size (Lib.byteCells l) t'.c _ hr0 hr1 hB1 (by omega) (by simp; omega)).mono ?_)
      rintro e w4 ⟨⟨kk, rfl⟩, hB4, hb4⟩
      have hB5 : Lib.IsBuilder 51 5 w2.heap.size w2.heap.size (Lib.byteCells (l ++ Lib.encodeRune t'.c)) w4 := by
        have : Lib.byteCells (l ++ Lib.encodeRune t'.c) = Lib.byteCells l ++ Lib.runeCells t'.c := by rw [← Lib.byteCells_encodeRune]; simp [Lib.byteCells]
        rw [this]; exact Or.inr hB4
      have hl5 : (l ++ Lib.encodeRune t'.c).length ≤ 4 * (i + 1) := by rw [List.length_append]; omega
      have hb5 : Below w2.heap.size w3 w4 := (hbr3.trans (kx.mono (by omega))).trans hb4
      clear m0 m4 BX E0 E1 E2 E3 E4 E5
      go_wp2
      go_roundw
      case rel => exact ⟨i + 1, cs ++ [t'.c], l ++ Lib.encodeRune t'.c, by go_num, by omega, hll2, HT2, HRB2, hl5, hB5, hb5⟩
      case measure => simp [intOf]; omega
    · obtain rfl : i = n2 := by omega
      go_wp2_with (go_at_call 21; refine (Tryz.Builder_String_any w2.heap.size w2.heap.size l _ hB (by omega)).mono ?_)
      rintro e w4 ⟨rfl, hb4⟩
      have HLL : Hid (cs.length = i) := hll
      rw [← HRB.out]
      go_wp2
      go_ret2
      refine ⟨cs, true, rfl, Or.inl ⟨⟨HAX.out, HR.out⟩, Or.inr ⟨HZ.out, Or.inl ⟨rfl, by have := HLL.out; have := HN2.out; omega, fun j hj => HT.out j (by have := HN2.out; omega)⟩⟩⟩, k3.trans ((hbr3.trans hb4).mono s2)⟩
end
end Go.Proofs.YtnlmjibdifbnbaaGreat

/- The document's ToText of any array. -/
namespace Go.Proofs.YtnlmjibdifbnbaaGreat
set_option linter.unusedVariables false
set_option linter.unusedSimpArgs false
open Go.RowKit

theorem getD_map_i32T (xs : List Int) (j : Nat) (h : j < xs.length) : (xs.map (Value.int .i32))[j]? = some (.int .i32 (xs.getD j 0)) := by
  simp [h]
section
variable {D : Nat → Prop} {f : Nat} {W : World} {x1 : Option Addr} {n1 y1 : Nat} {x2 : Option Addr} {n2 y2 : Nat} {t : Tr}
set_option maxRecDepth 100000 in
set_option maxHeartbeats 16000000 in
theorem refToText3_any (hD : ∀ g, D g → g < W.heap.size) (h : ArV f D W (.slice x1 n1 y1) (.slice x2 n2 y2) t) (hS : smF f t) : Calls Tryz.prog 9 #[.agg #[.slice x1 n1 y1, .slice x2 n2 y2]] W fun e w' => ∃ cs ok, e = .returned (.tuple #[.string (runesBytes cs), .bool ok]) ∧ Hid (CharsOf t cs ok) ∧ Below W.heap.size W w' := by
  obtain ⟨i0, hi0, hz0, hz1, hz2⟩ := info_parts info_i32
  obtain ⟨f, rfl⟩ : ∃ f', f = f' + 1 := by
    cases f with
    | zero => exact h.elim
    | succ f => exact ⟨f, rfl⟩
  have en1 := h.1.len
  have en2 := h.2.len
  have HN1 : Hid (n1 = t.ns.length) := en1
  have HN2 : Hid (n2 = t.kids.length) := en2
  have k0 := below_alloc W (.cells #[.slice x1 n1 y1, .slice x2 n2 y2] 25)
  have X0 := boxA_new W #[.slice x1 n1 y1, .slice x2 n2 y2] 25
  have s0 : W.heap.size < (W.alloc (.cells #[.slice x1 n1 y1, .slice x2 n2 y2] 25)).heap.size := by simp
  have z0 := X0.cell 0 rfl
  have z1 := X0.cell 1 rfl
  have H : Hid (ArV (f + 1) D W (.slice x1 n1 y1) (.slice x2 n2 y2) t) := h
  have HD : Hid (∀ g, D g → g < W.heap.size) := hD
  have HSM : Hid (smF (f + 1) t) := hS
  clear h hD en1 en2 hS
  go_enter Tryz.func9, Tryz.ntmps9
  go_wp2_with fail
  generalize hA : W.alloc (.cells #[.slice x1 n1 y1, .slice x2 n2 y2] 25) = v at *
  clear hA
  have C1 := refRight3_any (fun g hg => by have := HD.out g hg; omega) (H.out.agree (Agree.of k0 HD.out))
  refine C1.mono ?_
  rintro e w1 ⟨rfl, q1⟩
  clear C1 z0 z1
  have X1 := X0.below q1 s0
  have l1 := X1.lt
  have k1 : Below W.heap.size W w1 := k0.trans (q1.mono (by omega))
  have v0 := X1.cell 0 rfl
  have v1 := X1.cell 1 rfl
  by_cases hR : ¬ (measF 16 t).isSome = true
  · have hR' : (measF 16 t).isSome = false := by simpa using hR
    have HR : Hid (¬ (measF 16 t).isSome = true) := hR
    rw [hR']
    clear hR hR'
    go_wp2
    go_ret2
    exact ⟨[], false, rfl, Or.inr ⟨fun h => HR.out h.2, rfl, rfl⟩, k1⟩
  have hR : (measF 16 t).isSome = true := Decidable.not_not.1 hR
  have HR : Hid ((measF 16 t).isSome = true) := hR
  rw [hR]
  have hk4 : n2 ≤ 4096 := by
    obtain ⟨_, _, _, _, _, m4, _⟩ := measF_some hR
    have := HN2.out
    omega
  clear hR
  by_cases hax : ¬ t.ns.length ≤ 1
  · have hd' : (1 : Int) < (n1 : Int) := by have := HN1.out; omega
    have HAX : Hid (¬ t.ns.length ≤ 1) := hax
    clear hax
    go_wp2
    go_ret2
    exact ⟨[], false, rfl, Or.inr ⟨fun h => HAX.out h.1, rfl, rfl⟩, k1⟩
  have hax : t.ns.length ≤ 1 := Decidable.not_not.1 hax
  have HAX : Hid (t.ns.length ≤ 1) := hax
  have hd' : ¬ (1 : Int) < (n1 : Int) := by have := HN1.out; omega
  clear hax
  have C2 := refItems3_any (fun g hg => by have := HD.out g hg; omega) (H.out.agree (Agree.of k1 HD.out)) HSM.out HR.out
  go_wp2_with fail
  refine C2.mono ?_
  rintro e w2 ⟨hcase, q2⟩
  clear C2 v0 v1
  have k2 : Below W.heap.size W w2 := k1.trans (q2.mono (by omega))
  rcases hcase with ⟨hz, rfl⟩ | ⟨hz, p1, r1, u1, p2, r2, u2, rfl, hv⟩
  · have HZ : Hid ((sizeF t.ns).1 = 0) := hz
    clear hz
    go_wp2
    go_loopw [4, 6] (fun ov iv wr => iv = .int .i64 0 ∧ ov = .slice none 0 0 ∧ wr = w2) (fun _ _ _ => 0)
    case atStart => exact ⟨rfl, rfl, rfl⟩
    case round =>
      obtain ⟨rfl, rfl, rfl⟩ := hrel
      go_wp2_with fail
      rw [run_convert_runes_nil wr 57 9 21 0 0 Tryz.underlying57 Tryz.underlying21 Tryz.underlying9]
      simp only [Result.andThen]
      rw [Oper.upon_value]
      go_wp2
      go_ret2
      exact ⟨[], true, rfl, Or.inl ⟨⟨HAX.out, HR.out⟩, Or.inl ⟨HZ.out, rfl, rfl⟩⟩, k2⟩
  have HZ : Hid (¬ (sizeF t.ns).1 = 0) := hz
  have er2 := hv.2.len
  have hr2 : r2 = n2 := by have := HN2.out; omega
  subst hr2
  have HV2 : Hid (ArV (f + 1) (Fr w1.heap.size w2.heap.size) w2 (.slice p1 r1 u1) (.slice p2 r2 u2) t) := hv
  have s2 := k2.size
  have s1 := k1.size
  clear hv er2 hz
  go_wp2
  go_loopw [4, 6] (fun ov iv wr => ∃ (i : Nat) (a : Option Addr) (c : Nat) (l : List Int), iv = .int .i64 i ∧ ov = .slice a i c ∧ i ≤ r2 ∧ l.length = i ∧ Hid (∀ j, j < i → (t.kids.getD j tr0).k = 2 ∧ l.getD j 0 = (t.kids.getD j tr0).c) ∧ wr.ownsRow w2.heap.size 21 1 (.slice a i c) i (l.map (Value.int .i32)) ∧ Below w2.heap.size w2 wr) (fun _ iv _ => r2 - (intOf iv).toNat)
  case atStart => exact ⟨0, none, 0, [], rfl, rfl, Nat.zero_le _, rfl, (fun j hj => by omega), World.ownsRow_nil _ _ _ _, Below.refl _ _⟩
  case round =>
    obtain ⟨i, a, c, l, rfl, rfl, hil, hll, HT, ho, hbr⟩ := hrel
    have sb := hbr.size
    by_cases hlt : i < r2
    · have hR := HV2.out.2
      rw [← HN2.out] at hR
      obtain ⟨g1, o1, rfl, hg1, hc1⟩ := RowB.ptr hR (by omega)
      have bdU := RowB.bounds hR
      obtain ⟨b1, d1, b2, d2, b3, d3, ⟨e0, e1, e2, e3, e4, e5⟩, hv⟩ := hc1 i hlt
      have lg := hg1.2
      obtain ⟨t', ht'⟩ : ∃ x, t.kids.getD i tr0 = x := ⟨_, rfl⟩
      have HTX : Hid (t.kids.getD i tr0 = t') := ht'
      rw [ht'] at e0 e4
      have E0 := (hbr.cell (p := ⟨g1, o1 + i * 6, none⟩) lg).trans e0
      have E4 := (hbr.cell (p := ⟨g1, o1 + i * 6 + 4, none⟩) lg).trans e4
      clear hc1 e0 e1 e2 e3 e4 e5 hv ht' hR
      by_cases hk : ¬ t'.k = 2
      · have ek : (t'.k != 2) = true := by rw [bne_iff_ne]; exact hk
        have HK : Hid (¬ t'.k = 2) := hk
        clear hk
        go_wp2
        go_ret2
        exact ⟨[], false, rfl, Or.inl ⟨⟨HAX.out, HR.out⟩, Or.inr ⟨HZ.out, Or.inr ⟨rfl, rfl, i, by have := HN2.out; omega, by rw [HTX.out]; exact HK.out⟩⟩⟩, k2.trans (hbr.mono s2)⟩
      have hk : t'.k = 2 := Decidable.not_not.1 hk
      have ek : (t'.k != 2) = false := by rw [hk]; rfl
      have hnew := chars_step hll HT.out (by rw [HTX.out]; exact hk)
      rw [HTX.out] at hnew
      have HT2 : Hid (∀ j, j < i + 1 → (t.kids.getD j tr0).k = 2 ∧ (l ++ [t'.c]).getD j 0 = (t.kids.getD j tr0).c) := hnew.2
      have hll2 := hnew.1
      clear hnew hk
      go_wp2_with (at_builtin; refine wpList_append_own _ rfl _ _ 57 rfl w2.heap.size 21 i0 (.int .i32 0) 1 4 Tryz.underlying57 hi0 hz0 hz1 hz2 rfl (by decide) _ i (l.map (Value.int .i32)) rfl (ho.alloc _) ⟨wr.heap.size, 0, none⟩ 1 1 [.int .i32 t'.c] rfl rfl (cells_new wr #[.int .i32 t'.c] _) (by intro u hu; simp at hu; subst hu; rfl) (by unfold maxLen; omega) (by omega) (by simp; omega) ?_)
      intro v' w4 hown hgr _
      obtain ⟨a4, c4, rfl⟩ := row_form3 hown
      have hrow : ∀ k, (Value.slice a i c).ownBlock = some k → w2.heap.size ≤ k := fun k e => (row_own ho k e).1
      have hb4 : Below w2.heap.size w2 w4 := (hbr.trans ((below_alloc wr (.cells #[.int .i32 t'.c] 21)).mono sb)).grown hgr (by simp; omega) hrow
      have HO4 : Hid (w4.ownsRow w2.heap.size 21 1 (.slice a4 (i + 1) c4) (i + 1) ((l ++ [t'.c]).map (Value.int .i32))) := by
        unfold Hid
        rw [List.map_append]
        simp only [List.map_cons, List.map_nil]
        exact hown
      clear hown hgr ho
      go_wp2
      go_roundw
      case rel => exact ⟨i + 1, a4, c4, l ++ [t'.c], by go_num, rfl, by omega, hll2, HT2, HO4.out, hb4⟩
      case measure => simp [intOf]; omega
    · obtain rfl : i = r2 := by omega
      have HLL : Hid (l.length = i) := hll
      have hi1 : 0 < i := by
        have h1 := HN2.out
        obtain ⟨_, _, _, _, m3, _⟩ := measF_some HR.out
        omega
      obtain ⟨g, off, rfl, hcv⟩ : ∃ g off, a = some ⟨g, off, none⟩ ∧ ∀ j, j < l.length → wr.cell? ((⟨g, off, none⟩ : Addr).add j) = some (.int .i32 (l.getD j 0)) := by
        have hrow := ho
        obtain ⟨_, h | ⟨g, cap, cur, hv, hg, hh, h2, h3, _, _⟩⟩ := ho
        · obtain ⟨_, e2⟩ := h; omega
        · obtain ⟨rfl, _, rfl⟩ := Value.slice.inj hv
          refine ⟨g, 0, rfl, fun j hj => ?_⟩
          have := hrow.cellAt j (by omega)
          rw [getD_map_i32T l j hj] at this
          by_cases h0 : j = 0
          · subst h0; simpa [Addr.add] using this
          · simpa [Addr.add, h0] using this
      have hconv := run_convert_runes (P := Tryz.prog) wr 57 9 21 ⟨g, off, none⟩ i c l (by omega) Tryz.underlying57 Tryz.underlying21 Tryz.underlying9 hcv
      rw [List.take_of_length_le (by omega)] at hconv
      clear hcv ho
      obtain ⟨T, hT⟩ : ∃ T, runesBytes l = T := ⟨_, rfl⟩
      have HTT : Hid (runesBytes l = T) := hT
      rw [hT] at hconv
      clear hT
      go_wp2
      go_ret2
      refine ⟨l, true, by rw [HTT.out]; rfl, Or.inl ⟨⟨HAX.out, HR.out⟩, Or.inr ⟨HZ.out, Or.inl ⟨rfl, by have := HLL.out; have := HN2.out; omega, fun j hj => HT.out j (by have := HN2.out; omega)⟩⟩⟩, k2.trans (hbr.mono s2)⟩
end
end Go.Proofs.YtnlmjibdifbnbaaGreat
