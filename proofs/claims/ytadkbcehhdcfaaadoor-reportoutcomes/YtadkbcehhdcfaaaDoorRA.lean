/- What texts of numbers answer, in one form; a number's text is read back. -/
import Derived.Test.YtadkbcehhdcfaaaDoorJ8
import Derived.Test.YtadkbcehhdcfaaaDoorJ4
import Derived.Test.YtadkbcehhdcfaaaDoorJ7
import Derived.Test.YtadkbcehhdcfaaaDoorJ5
import Derived.Test.YtadkbcehhdcfaaaDoorJ6
import Derived.Test.YtadkbcehhdcfaaaDoorJ1
namespace Go.Proofs.YtadkbcehhdcfaaaDoor
set_option linter.unusedVariables false
set_option linter.unusedSimpArgs false
open Go.RowKit

theorem Cuts.fix {l A H A' H' : List UInt8} {B B' : Bool} {m m' : Int} (h : Cuts l B m A H) (k : Cuts l B' m' A' H') : B = B' ∧ m = m' ∧ A = A' ∧ H = H' := by
  obtain ⟨k1, ⟨k2, k3, k4, k5⟩ | ⟨x, hx, k2, k3, k4⟩⟩ := k
  · obtain ⟨h1, ⟨h2, h3, h4, h5⟩ | ⟨x, hx, h2, h3, h4⟩⟩ := h
    · exact ⟨by rw [h1, k1], by rw [h2, k2], by rw [h3, k3], by rw [h4, k4]⟩
    · exfalso
      rw [← k3] at h3
      exact k5 x (by rw [h3]; simp) hx
  · obtain ⟨e1, e2, e3⟩ := cuts_unique h hx k3 k4
    exact ⟨h.1.trans k1.symm, e1.trans k2.symm, e2, e3⟩

/-- What a text's parts make, as numbers. -/
def PartSpec (B : Bool) (m : Int) (A H : List UInt8) (b : Bool) (ns ds : List Int) (err : Int) : Prop :=
  ((¬ isNum A ∨ (¬ m = 0 ∧ ¬ isNum H)) ∧ err = 22 ∧ b = false ∧ ns = [] ∧ ds = []) ∨ (isNum A ∧ m = 0 ∧ MakeSpec (sg B (dval A)) 1 b ns ds err) ∨
  (isNum A ∧ isNum H ∧ m = 114 ∧ MakeSpec (sg B (dval A)) (dval H) b ns ds err) ∨ (isNum A ∧ isNum H ∧ m = 46 ∧ MakeSpec (sg B ((dval A * 10 ^ H.length + dval H : Nat) : Int)) ((10 ^ H.length : Nat) : Int) b ns ds err)
theorem PartSpec.unique {B : Bool} {m : Int} {A H : List UInt8} {b c : Bool} {ns ds ms es : List Int} {e f : Int} (h : PartSpec B m A H b ns ds e) (k : PartSpec B m A H c ms es f) : c = b ∧ ms = ns ∧ es = ds ∧ f = e := by
  rcases h with ⟨h1, rfl, rfl, rfl, rfl⟩ | ⟨h1, h2, h3⟩ | ⟨h1, h2, h3, h4⟩ | ⟨h1, h2, h3, h4⟩ <;> rcases k with ⟨k1, rfl, rfl, rfl, rfl⟩ | ⟨k1, k2, k3⟩ | ⟨k1, k2, k3, k4⟩ | ⟨k1, k2, k3, k4⟩
  · exact ⟨rfl, rfl, rfl, rfl⟩
  · exfalso; rcases h1 with h | h
    · exact h k1
    · exact h.1 k2
  · exfalso; rcases h1 with h | h
    · exact h k1
    · exact h.2 k2
  · exfalso; rcases h1 with h | h
    · exact h k1
    · exact h.2 k2
  · exfalso; rcases k1 with h | h
    · exact h h1
    · exact h.1 h2
  · exact h3.unique k3
  · omega
  · omega
  · exfalso; rcases k1 with h | h
    · exact h h1
    · exact h.2 h2
  · omega
  · exact h4.unique k4
  · omega
  · exfalso; rcases k1 with h | h
    · exact h h1
    · exact h.2 h2
  · omega
  · omega
  · exact h4.unique k4
/-- What a text is read as. -/
def TextSpec (s : ByteArray) (b : Bool) (ns ds : List Int) (err : Int) : Prop :=
  (700 < Lib.runeCount s ∧ err = 8 ∧ b = false ∧ ns = [] ∧ ds = []) ∨ (¬ 700 < Lib.runeCount s ∧ ∃ B m A H, Cuts s.data.toList B m A H ∧ PartSpec B m A H b ns ds err)
theorem TextSpec.unique {s : ByteArray} {b c : Bool} {ns ds ms es : List Int} {e f : Int} (h : TextSpec s b ns ds e) (k : TextSpec s c ms es f) : c = b ∧ ms = ns ∧ es = ds ∧ f = e := by
  rcases h with ⟨h1, rfl, rfl, rfl, rfl⟩ | ⟨h1, B, m, A, H, h2, h3⟩ <;> rcases k with ⟨k1, rfl, rfl, rfl, rfl⟩ | ⟨k1, B', m', A', H', k2, k3⟩
  · exact ⟨rfl, rfl, rfl, rfl⟩
  · exact absurd h1 k1
  · exact absurd k1 h1
  · obtain ⟨rfl, rfl, rfl, rfl⟩ := h2.fix k2
    exact h3.unique k3
theorem RParses.spec {w w' : World} {s : ByteArray} {e : Ending} (h : RParses w s e w') : ∃ b ns ds err, Hid (TextSpec s b ns ds err) ∧ RAns w b ns ds err e w' := by
  obtain ⟨hb, ⟨h7, he⟩ | ⟨h7, B, m, A, H, hc, hp⟩⟩ := h
  · exact ⟨false, [], [], 8, Or.inl ⟨h7, rfl, rfl, rfl, rfl⟩, hb, none, 0, none, 0, he, nil_rd _, nil_rd _⟩
  · rcases hp with ⟨h1, he⟩ | ⟨h1, h2, h3⟩ | ⟨h1, h2, h3, h4, he⟩ | ⟨h1, h2, h3, h4, h5⟩ | ⟨h1, h2, h3, h4⟩
    · exact ⟨false, [], [], 22, Or.inr ⟨h7, B, m, A, H, hc, Or.inl ⟨h1, rfl, rfl, rfl, rfl⟩⟩, hb, none, 0, none, 0, he, nil_rd _, nil_rd _⟩
    · obtain ⟨b, ns, ds, err, hs, hr⟩ := h3.spec (by decide)
      exact ⟨b, ns, ds, err, Or.inr ⟨h7, B, m, A, H, hc, Or.inr (Or.inl ⟨h1, h2, hs.out⟩)⟩, hr⟩
    · refine ⟨false, [], [], 22, Or.inr ⟨h7, B, m, A, H, hc, Or.inr (Or.inr (Or.inl ⟨h1, h2, h3, Or.inl ⟨?_, rfl, rfl, rfl, rfl⟩⟩))⟩, hb, none, 0, none, 0, he, nil_rd _, nil_rd _⟩
      rw [h4]; rfl
    · obtain ⟨b, ns, ds, err, hs, hr⟩ := h5.spec (by omega)
      exact ⟨b, ns, ds, err, Or.inr ⟨h7, B, m, A, H, hc, Or.inr (Or.inr (Or.inl ⟨h1, h2, h3, hs.out⟩))⟩, hr⟩
    · obtain ⟨b, ns, ds, err, hs, hr⟩ := h4.spec (Int.natCast_pos.2 (Nat.pow_pos (by decide)))
      exact ⟨b, ns, ds, err, Or.inr ⟨h7, B, m, A, H, hc, Or.inr (Or.inr (Or.inr ⟨h1, h2, h3, hs.out⟩))⟩, hr⟩

theorem runeCount_le (s : ByteArray) : ∀ fuel pos, pos ≤ s.size → pos + Lib.runeCountFrom s fuel pos ≤ s.size
  | 0, pos, h => by unfold Lib.runeCountFrom; omega
  | f + 1, pos, h => by
    unfold Lib.runeCountFrom
    by_cases hp : pos < s.size
    · rw [if_pos hp]
      have h1 := Lib.decode_width_pos s pos hp
      have h2 := dec_end s pos hp
      have ih := runeCount_le s f (pos + (Utf8.decode s pos).2) h2
      omega
    · rw [if_neg hp]; omega

/-- A right number that is made anew of itself. -/
theorem make_self {b c : Bool} {ns ds ms es : List Int} {err : Int} (hr : RightP b ns ds) (h : MakeSpec (sg b (val ns)) (val ds) c ms es err) : err = 0 ∧ c = b ∧ ms = ns ∧ es = ds := by
  have hD : 0 < val ds := (right_pos hr).1
  rcases h with ⟨h0, _⟩ | ⟨_, _, _, _, _, hb⟩ | ⟨_, he, hr', hv⟩
  · omega
  · exact absurd hb (not_big hr rfl hD)
  · obtain ⟨rfl, rfl, rfl⟩ := right_is hr rfl hD hr' hv
    exact ⟨he, rfl, rfl, rfl⟩

theorem dig_not {n : Nat} {y : UInt8} (h : y ∈ Lib.decDigits n) : ¬ isM y ∧ ¬ y.toNat = 194 := by
  have := (dval_decDigits n).2.1 y h
  unfold isM
  omega
theorem isNum_dig (n : Nat) : isNum (Lib.decDigits n) := ⟨(dval_decDigits n).2.1, (dval_decDigits n).2.2⟩
theorem not_mac (n : Nat) (l : List UInt8) : isMac (Lib.decDigits n ++ l) = false := by
  cases h : Lib.decDigits n with
  | nil => have := (dval_decDigits n).2.2; rw [h] at this; simp at this
  | cons a k =>
    have ha := (dig_not (n := n) (y := a) (by rw [h]; simp)).2
    cases hk : k ++ l with
    | nil => simp [isMac, hk]
    | cons c r => simp [isMac, hk, ha]
theorem ratText_list (b : Bool) (ns ds : List Int) : (ratText b ns ds).data.toList = (if b = true then [194, 175] else []) ++ (Lib.decDigits (val ns).toNat ++ (if ds = [1] then [] else 114 :: Lib.decDigits (val ds).toNat)) := by
  unfold ratText digB
  by_cases h1 : ds = [1] <;> cases b <;> simp [h1, ByteArray.data_append]
theorem ratText_cuts (b : Bool) (ns ds : List Int) : Cuts (ratText b ns ds).data.toList b (if ds = [1] then 0 else 114) (Lib.decDigits (val ns).toNat) (if ds = [1] then [] else Lib.decDigits (val ds).toNat) := by
  rw [ratText_list]
  have hm : isMac ((if b = true then [194, 175] else []) ++ (Lib.decDigits (val ns).toNat ++ (if ds = [1] then [] else 114 :: Lib.decDigits (val ds).toNat))) = b := by
    cases b with
    | true => simp [isMac]
    | false => simp only [Bool.false_eq_true, if_false, List.nil_append]; exact not_mac _ _
  have hd : ((if b = true then [194, 175] else []) ++ (Lib.decDigits (val ns).toNat ++ (if ds = [1] then [] else 114 :: Lib.decDigits (val ds).toNat))).drop (st ((if b = true then [194, 175] else []) ++ (Lib.decDigits (val ns).toNat ++ (if ds = [1] then [] else 114 :: Lib.decDigits (val ds).toNat)))) = Lib.decDigits (val ns).toNat ++ (if ds = [1] then [] else 114 :: Lib.decDigits (val ds).toNat) := by
    unfold st
    rw [hm]
    cases b <;> simp
  refine ⟨hm.symm, ?_⟩
  rw [hd]
  by_cases h1 : ds = [1]
  · rw [if_pos h1, if_pos h1, if_pos h1, List.append_nil]
    exact Or.inl ⟨rfl, rfl, rfl, fun y hy => (dig_not hy).1⟩
  · rw [if_neg h1, if_neg h1, if_neg h1]
    exact Or.inr ⟨114, Or.inr rfl, rfl, rfl, fun y hy => (dig_not hy).1⟩
theorem ratText_size {b : Bool} {ns ds : List Int} (hr : RightP b ns ds) : (ratText b ns ds).size ≤ 700 := by
  have h1 := dig_bound hr.2.2.1.1
  have h2 := dig_bound hr.2.2.2.1.1
  have l1 := hr.1
  have l2 := hr.2.1
  have e : (ratText b ns ds).size = (ratText b ns ds).data.toList.length := by simp
  rw [e, ratText_list]
  generalize Lib.decDigits (val ns).toNat = A at *
  generalize Lib.decDigits (val ds).toNat = D at *
  by_cases h1 : ds = [1] <;> cases b <;> simp [h1] <;> omega
/-- A number's text is read as the number. -/
theorem TextSpec.back {b c : Bool} {ns ds ms es : List Int} {err : Int} (hr : RightP b ns ds) (h : TextSpec (ratText b ns ds) c ms es err) : err = 0 ∧ c = b ∧ ms = ns ∧ es = ds := by
  have hsz := ratText_size hr
  rcases h with ⟨h7, _⟩ | ⟨h7, B, m, A, H, hc, hp⟩
  · exfalso
    have := runeCount_le (ratText b ns ds) (ratText b ns ds).size 0 (Nat.zero_le _)
    unfold Lib.runeCount at h7
    omega
  · obtain ⟨rfl, rfl, rfl, rfl⟩ := (ratText_cuts b ns ds).fix hc
    have nv := (val_bound hr.2.2.1.1).1
    have dv := (right_pos hr).1
    have e1 : ((dval (Lib.decDigits (val ns).toNat) : Nat) : Int) = val ns := by rw [(dval_decDigits _).1]; omega
    have e2 : ((dval (Lib.decDigits (val ds).toNat) : Nat) : Int) = val ds := by rw [(dval_decDigits _).1]; omega
    have i1 := isNum_dig (val ns).toNat
    have i2 := isNum_dig (val ds).toNat
    by_cases h1 : ds = [1]
    · simp only [if_pos h1] at hp
      rcases hp with ⟨h2 | h2, _⟩ | ⟨_, _, h3⟩ | ⟨_, _, h3, _⟩ | ⟨_, _, h3, _⟩
      · exact absurd i1 h2
      · exact absurd rfl h2.1
      · rw [e1] at h3
        have v1 : val ds = 1 := by rw [h1]; decide
        rw [← v1] at h3
        exact make_self hr h3
      · exact absurd h3 (by decide)
      · exact absurd h3 (by decide)
    · simp only [if_neg h1] at hp
      rcases hp with ⟨h2 | h2, _⟩ | ⟨_, h3, _⟩ | ⟨_, _, _, h4⟩ | ⟨_, _, h3, _⟩
      · exact absurd i1 h2
      · exact absurd i2 h2.2
      · exact absurd h3 (by decide)
      · rw [e1, e2] at h4
        exact make_self hr h4
      · exact absurd h3 (by decide)
end Go.Proofs.YtadkbcehhdcfaaaDoor

/- The document's Print: the decimal digits. -/
namespace Go.Proofs.YtadkbcehhdcfaaaDoor
set_option linter.unusedVariables false
set_option linter.unusedSimpArgs false
open Go.RowKit

/-- Where Print stands: what is left of the number, and the digits behind it. -/
def Behind (V n : Nat) (l : List UInt8) : Prop := (0 < n → Lib.decDigits V = Lib.decDigits n ++ l) ∧ (n = 0 → l = [] ∧ V = 0 ∨ l = Lib.decDigits V ∧ 0 < V)

theorem behind_start (V : Nat) : Behind V V [] := ⟨fun _ => by simp, fun h => Or.inl ⟨rfl, h⟩⟩
theorem behind_step {V n q d : Nat} {l : List UInt8} (h : Behind V n l) (hn : 0 < n) (he : n = q * 10 + d) (hd : d < 10) : Behind V q ([UInt8.ofNat (48 + d)] ++ l) := by
  have h1 := h.1 hn
  refine ⟨fun hq => ?_, fun hq => Or.inr ⟨?_, ?_⟩⟩
  · rw [h1, Lib.decDigits, dif_neg (by omega), show n / 10 = q by omega, show n % 10 = d by omega, List.append_assoc]
  · rw [h1, Lib.decDigits, dif_pos (by omega), show n = d by omega]
  · by_cases h0 : V = 0
    · subst h0
      have := congrArg List.length h1
      rw [List.length_append, Lib.decDigits_length, Lib.decDigits_length, Lib.nDigits_small (by omega)] at this
      have h2 := Lib.nDigits_pos n
      have hl : l = [] := List.eq_nil_of_length_eq_zero (by omega)
      rw [hl, List.append_nil] at h1
      have h3 := congrArg dval h1
      rw [(dval_decDigits 0).1, (dval_decDigits n).1] at h3
      omega
    · omega

theorem ref_val_ten : val [10] = 10 := by decide

/-- string of a slice of one new byte. -/
theorem one_byte (w : World) (x : Int) (d : Nat) (hd : d < 10) (hx : x = 48 + (d : Int)) : (convert 64 9 (.slice (some ⟨w.heap.size, 0, none⟩) 1 1)).run Tryd.prog (w.alloc (.cells #[.int .u8 x] 5)) = .ok (.string ⟨#[UInt8.ofNat (48 + d)]⟩) (w.alloc (.cells #[.int .u8 x] 5)) := by
  have h := run_convert_bytes_back (P := Tryd.prog) (w.alloc (.cells #[.int .u8 x] 5)) 64 9 5 ⟨w.heap.size, 0, none⟩ 1 [UInt8.ofNat (48 + d)] Tryd.underlying64 Tryd.underlying5 Tryd.underlying9 (fun j hj => by
    have hj0 : j = 0 := by simpa using hj
    subst hj0
    simp only [List.getElem_cons_zero, digit_toNat d hd]
    subst hx
    simp [Addr.add])
  exact h

theorem pw_ten (L : Nat) : pw L ≤ ((10 ^ (10 * L) : Nat) : Int) := by
  induction L with
  | zero => decide
  | succ L ih =>
    rw [pw_succ, Nat.mul_succ, Nat.pow_add, Int.natCast_mul]
    have h1 : (0 : Int) ≤ ((10 ^ (10 * L) : Nat) : Int) := Int.natCast_nonneg _
    have e : ((10 ^ 10 : Nat) : Int) = 10000000000 := by decide
    rw [e]
    have := pw_pos L
    generalize ((10 ^ (10 * L) : Nat) : Int) = T at *
    omega

theorem digits_bound {V L : Nat} (h : (V : Int) < pw L) : (Lib.decDigits V).length ≤ 10 * L + 1 := by
  refine decDigits_le (10 * L + 1) V (by omega) ?_
  have h1 := pw_ten L
  have h2 : 10 ^ (10 * L) ≤ 10 ^ (10 * L + 1) := Nat.pow_le_pow_right (by decide) (by omega)
  omega

set_option maxRecDepth 100000 in
set_option maxHeartbeats 3200000 in
theorem refPrint_any {B : Nat} {w : World} {v : Value} {xs : List Int} (h : Rd B w v xs) (hB : B ≤ w.heap.size) (hn : xs.length ≤ 100000) :
    Calls Tryd.prog 46 #[v] w fun e w' => Digits w (val xs) e w' := by
  have hO1 : Own w.heap.size (w.alloc (.cells #[.int .u32 10] 85)) (.slice (some ⟨w.heap.size, 0, none⟩) [(10 : Int)].length 1) [10] := ⟨fun x hx => by simp at hx; omega, World.ownsRow_lit w #[.int .u32 10] 1 (Nat.le_refl _) (by unfold maxLen; omega) rfl⟩
  have b0 : Below w.heap.size w (w.alloc (.cells #[.int .u32 10] 85)) := (Below.refl _ _).alloc (Nat.le_refl _) _
  have h' := h.below (b0.mono hB)
  have s0 := b0.size
  have ct := tr_can h.lim
  have hle := tr_length_le xs
  have HV : Hid (val (tr xs) = val xs ∧ 0 ≤ val xs) := ⟨val_tr xs, (val_bound h.lim).1⟩
  obtain ⟨V, hV⟩ := Int.eq_ofNat_of_zero_le HV.out.2
  have hDB : (Lib.decDigits V).length ≤ 10 * xs.length + 1 := digits_bound (by rw [← hV]; exact (val_bound h.lim).2)
  rw [hV]
  go_enter Tryd.func46, Tryd.ntmps46
  go_wp2_with fail
  refine (refTrim_rd h' (by omega)).mono ?_
  rintro e wa ⟨a1, q1, rfl, o1, ba⟩
  have bw : Below w.heap.size w wa := b0.trans (ba.mono s0)
  have o10 := hO1.below ba (Nat.le_refl _)
  have o1w : Own w.heap.size wa (.slice a1 (tr xs).length q1) (tr xs) := o1.mono s0
  have sa := bw.size
  generalize tr xs = us at *
  clear h h' hO1 b0 ba o1 s0
  go_wp2
  go_loopg [3, 5] V (fun g sv bv wr => ∃ (S : ByteArray) (l : List UInt8) (bs : List Int) (a : Option Addr) (c n : Nat), Hid (g = n) ∧ sv = .string S ∧ Hid (S.data.toList = l) ∧ bv = .slice a bs.length c ∧ can bs ∧ Hid (val bs = (n : Int)) ∧ Hid (Behind V n l) ∧ bs.length ≤ xs.length ∧ Own w.heap.size wr (.slice a bs.length c) bs ∧ Below wa.heap.size wa wr)
  case atStart => exact ⟨⟨#[]⟩, [], us, a1, q1, V, rfl, rfl, rfl, rfl, ct, (by unfold Hid; rw [HV.out.1, hV]), behind_start V, hle, o1w, Below.refl _ _⟩
  case round =>
    obtain ⟨S, l, bs, a, c, g, hgg, rfl, hS, rfl, cb, hg, hbe, hbl', ob, hbl⟩ := hrel
    have hs := hbl.size
    by_cases h0 : 0 < bs.length
    · have hpos := pos_len cb (by omega)
      have HP : Hid (0 < g) := by unfold Hid; have := hg.out; omega
      have hlt := (val_bound cb.1).2
      clear hpos
      have r10 := o10.below hbl (Nat.le_refl _)
      go_wp2_with fail
      refine (refDivMod_any ob.rd (Nat.le_refl _) r10.rd (Nat.le_refl _) (by omega) (by simp) (by rw [ref_val_ten]; decide)).mono ?_
      rintro e w2 ⟨qs, rs, a3, c3, a4, c4, rfl, oq, or, cq, cr, hv, hl, b2⟩
      rw [ref_val_ten] at hv hl
      have s2 := b2.size
      have hqn := (val_bound cq.1).1
      have hrn := (val_bound cr.1).1
      obtain ⟨d, hd⟩ := Int.eq_ofNat_of_zero_le hrn
      obtain ⟨q, hq⟩ := Int.eq_ofNat_of_zero_le hqn
      have hd10 : d < 10 := by omega
      have HBE : Hid (Behind V q ([UInt8.ofNat (48 + d)] ++ l)) := behind_step hbe.out HP.out (by have := hg.out; omega) hd10
      have hQ : Hid (val qs = (q : Int) ∧ q < g) := ⟨hq, by have := hg.out; have := HP.out; omega⟩
      have hql : qs.length ≤ bs.length := len_of_lt cq (by omega)
      have hSs : S.size ≤ 10000000 := by
        have h1 := congrArg List.length (hbe.out.1 HP.out)
        rw [List.length_append] at h1
        have h2 : S.size = l.length := by rw [← hS.out]; rfl
        omega
      have hSl : Hid ((⟨#[UInt8.ofNat (48 + d)]⟩ ++ S : ByteArray).data.toList = [UInt8.ofNat (48 + d)] ++ l) := by
        unfold Hid; rw [ByteArray.data_append, Array.toList_append, hS.out]
      by_cases hr0 : 0 < rs.length
      · obtain ⟨g4, f4, rfl, k4⟩ := low_cell or (by omega)
        have hrs := limbs_of cr (d : Int) (by have := pos_len cr (by omega); omega) (by omega) hd
        have k4' : w2.cell? ⟨g4, f4, none⟩ = some (.int .u32 (d : Int)) := by rw [k4, hrs]; rfl
        have hcv := one_byte w2 (48 + (d : Int)) d hd10 rfl
        clear hv hl hd hq hqn hrn k4 hrs hlt
        go_wp2
        go_roundg q
        case measure => have := hgg.out; have := hQ.out; omega
        case rel => exact ⟨⟨#[UInt8.ofNat (48 + d)]⟩ ++ S, _, qs, a3, c3, q, rfl, (by first | rfl | simp), hSl, rfl, cq, hQ.out.1, HBE, by omega, (oq.alloc _).mono (by omega), hbl.trans ((b2.mono hs).alloc (by omega) _)⟩
      · have hd0 : d = 0 := by
          have := (can_zero cr).1 (by omega)
          omega
        subst hd0
        have hcv := one_byte w2 48 0 hd10 rfl
        clear hv hl hd hq hqn hrn hlt
        go_wp2
        go_roundg q
        case measure => have := hgg.out; have := hQ.out; omega
        case rel => exact ⟨⟨#[UInt8.ofNat (48 + 0)]⟩ ++ S, _, qs, a3, c3, q, rfl, (by first | rfl | simp), hSl, rfl, cq, hQ.out.1, HBE, by omega, (oq.alloc _).mono (by omega), hbl.trans ((b2.mono hs).alloc (by omega) _)⟩
    · have hz := (can_zero cb).1 (by omega)
      have hg0 : g = 0 := by have := hg.out; omega
      rcases hbe.out.2 hg0 with ⟨hl0, hV0⟩ | ⟨hl1, hV1⟩
      · have hE : S.toList.isEmpty = true := by rw [ByteArray.toList_eq, hS.out, hl0]; rfl
        have HV0 : Hid (V = 0) := hV0
        clear hl0 hV0 hz hg0
        go_wp2
        go_ret
        refine ⟨?_, bw.trans (hbl.mono sa)⟩
        rw [HV0.out]
        exact ret_str digits_zero
      · have hE : S.toList.isEmpty = false := by
          rw [ByteArray.toList_eq, hS.out, hl1]
          have := (dval_decDigits V).2.2
          cases hD : Lib.decDigits V with
          | nil => rw [hD] at this; simp at this
          | cons => rfl
        have HSV : Hid (S = ⟨(Lib.decDigits V).toArray⟩) := by
          unfold Hid
          obtain ⟨⟨sl⟩⟩ := S
          have := hS.out
          rw [hl1] at this
          simp at this
          rw [this]
        clear hl1 hV1 hz hg0
        go_wp2
        go_ret
        refine ⟨?_, bw.trans (hbl.mono sa)⟩
        exact ret_str HSV.out
end Go.Proofs.YtadkbcehhdcfaaaDoor

/- rat.wholeNextTo, rat.Floor: the whole numbers next to a number. -/
namespace Go.Proofs.YtadkbcehhdcfaaaDoor
set_option linter.unusedVariables false
set_option linter.unusedSimpArgs false
open Go.RowKit

/-- A result's variable. -/
structure RVar (w : World) (k : Nat) : Prop where
  lt : k < w.heap.size
  box : Box3 w k 57 (.bool false) (.slice none 0 0) (.slice none 0 0)
theorem RVar.below {w w' : World} {k : Nat} (h : RVar w k) (hb : Below w.heap.size w w') : RVar w' k := ⟨Nat.lt_of_lt_of_le h.lt hb.size, h.box.below hb h.lt⟩
theorem rvar_new (w : World) : RVar (w.alloc (.cells #[.bool false, .slice none 0 0, .slice none 0 0] 57)) w.heap.size := ⟨by simp, box3_new _ _ _ _ _⟩

/-- The size of the whole number next to a number: further away from 0, or nearer. -/
def wholeM (f : Bool) (n d : Int) : Int := n / d + if f = true ∧ ¬ n % d = 0 then 1 else 0

theorem div_unique {n d q r : Int} (h : n = q * d + r) (h0 : 0 ≤ r) (h1 : r < d) : q = n / d ∧ r = n % d := by
  have hd : 0 < d := by omega
  have e1 : n / d = q := by
    rw [h, Int.add_comm, Int.add_mul_ediv_right _ _ (by omega), Int.ediv_eq_zero_of_lt h0 h1]
    omega
  refine ⟨e1.symm, ?_⟩
  have e2 := Int.emod_def n d
  rw [e1] at e2
  rw [e2, h, Int.mul_comm d]
  omega

theorem floor_whole (b : Bool) (n d : Int) (hn : 0 ≤ n) (hd : 0 < d) : sg b (wholeM b n d) = sg b n / d := by
  have hm0 := Int.emod_nonneg n (show d ≠ 0 by omega)
  have hm1 := Int.emod_lt_of_pos n hd
  have he : n / d * d + n % d = n := by rw [Int.mul_comm]; exact Int.mul_ediv_add_emod n d
  unfold wholeM sg
  cases b with
  | false => simp
  | true =>
    by_cases h0 : n % d = 0
    · simp only [h0, not_true_eq_false, and_false, if_false, if_true, Int.add_zero]
      exact (div_unique (r := 0) (by rw [Int.neg_mul]; omega) (by omega) hd).1
    · simp only [h0, not_false_eq_true, and_true, if_true]
      refine (div_unique (r := d - n % d) ?_ (by omega) (by omega)).1
      rw [Int.neg_mul, Int.add_mul]
      omega

theorem one_val : val [(1 : Int)] = 1 := by decide
theorem can_add_one {q r : List Int} (c : can r) : (0 < r.length ↔ ¬ val r = 0) := by
  have := can_zero c
  omega

section
variable {B : Nat} {w : World} {bx : Bool} {a1 a2 : Option Addr} {c1 c2 : Nat} {xn xd : List Int}

end
end Go.Proofs.YtadkbcehhdcfaaaDoor

/- rat.OfInt at every int. -/
namespace Go.Proofs.YtadkbcehhdcfaaaDoor
set_option linter.unusedVariables false
set_option linter.unusedSimpArgs false
open Go.RowKit

theorem of_can (n : Int) (h0 : 0 ≤ n) (h1 : n < 18446744073709551616) : can (tr [n % 4294967296, n / 4294967296]) ∧ val (tr [n % 4294967296, n / 4294967296]) = n ∧ (tr [n % 4294967296, n / 4294967296]).length ≤ 2 := by
  refine ⟨tr_can (fun x hx => by simp at hx; omega), ?_, ?_⟩
  · rw [val_tr]; simp [val]; omega
  · have := tr_length_le [n % 4294967296, n / 4294967296]
    simpa using this
/-- A whole number as a number. -/
def WholeIs (k : Int) (b : Bool) (ns ds : List Int) : Prop := b = decide (k < 0) ∧ can ns ∧ val ns = (if k < 0 then -k else k) ∧ ns.length ≤ 2 ∧ ds = [1]
theorem WholeIs.right {k : Int} {b : Bool} {ns ds : List Int} (h : WholeIs k b ns ds) : RightP b ns ds := by
  obtain ⟨rfl, cn, vn, ln, rfl⟩ := h
  refine ⟨by omega, by simp, cn, can_one, ?_, by simp, by rw [one_val]; exact gI_one_right _⟩
  rintro ⟨hb, hz⟩
  rw [(can_zero cn).1 hz] at vn
  rw [decide_eq_true_iff] at hb
  rw [if_pos hb] at vn
  omega
theorem WholeIs.sg {k : Int} {b : Bool} {ns ds : List Int} (h : WholeIs k b ns ds) : sg b (val ns) = k ∧ val ds = 1 := by
  obtain ⟨rfl, cn, vn, ln, rfl⟩ := h
  refine ⟨?_, one_val⟩
  rw [vn]
  by_cases hk : k < 0
  · rw [decide_eq_true hk, if_pos hk]; simp [Go.Proofs.YtadkbcehhdcfaaaDoor.sg]
  · rw [decide_eq_false hk, if_neg hk]; rfl
/-- A whole number's answer. -/
def WholeNum (w : World) (k : Int) (e : Ending) (w' : World) : Prop :=
  Below w.heap.size w w' ∧ ∃ b ns ds a1 c1 a2 c2, Hid (WholeIs k b ns ds) ∧ e = .returned (.agg #[.bool b, .slice a1 ns.length c1, .slice a2 ds.length c2]) ∧ Own w.heap.size w' (.slice a1 ns.length c1) ns ∧ Own w.heap.size w' (.slice a2 ds.length c2) ds

end Go.Proofs.YtadkbcehhdcfaaaDoor

/- rat.powerOf. -/
namespace Go.Proofs.YtadkbcehhdcfaaaDoor
set_option linter.unusedVariables false
set_option linter.unusedSimpArgs false
open Go.RowKit

theorem pow_huge (A : Int) (N : Nat) (hA : 2 ≤ A) (hN : 1024 ≤ N) : pw 32 ≤ A ^ N := by
  rw [pw_p2]
  have h1 : p2 (32 * 32) ≤ p2 N := p2_mono hN
  have h2 : (2 : Int) ^ N ≤ A ^ N := (pow_le_pow (by omega) hA N).1
  unfold p2 at *
  omega
theorem bits_small {A : Int} {b : Nat} (h : isBits A b) (hb : b < 2) : A = 0 ∨ A = 1 := by
  rcases h with ⟨rfl, _⟩ | ⟨h1, h2, h3⟩
  · exact Or.inl rfl
  · obtain rfl : b = 1 := by omega
    have e1 : p2 (1 - 1) = 1 := by decide
    have e2 : p2 1 = 2 := by decide
    omega
theorem bits_great {A : Int} {b : Nat} (h : isBits A b) (hb : ¬ b < 2) : 2 ≤ A := by
  rcases h with ⟨rfl, h⟩ | ⟨h1, h2, h3⟩
  · omega
  · have := p2_mono (j := 1) (k := b - 1) (by omega)
    have e2 : p2 1 = 2 := by decide
    omega
theorem pow_unit {A : Int} (h : A = 0 ∨ A = 1) (N : Nat) (hN : 0 < N) : A ^ N = A := by
  obtain ⟨k, rfl⟩ : ∃ k, N = k + 1 := ⟨N - 1, by omega⟩
  rcases h with rfl | rfl
  · rw [Int.pow_succ, Int.mul_zero]
  · exact one_pow' _
theorem one_lt_pw : (1 : Int) < pw 32 := by
  have := pw_mono (j := 1) (k := 32) (by omega)
  have e : pw 1 = 4294967296 := by decide
  omega

/-- What rat.powerOf answers. -/
def PowGives (w : World) (A : Int) (N : Nat) (e : Ending) (w' : World) : Prop :=
  Below w.heap.size w w' ∧ ((pw 32 ≤ A ^ N ∧ e = .returned (.tuple #[.slice none 0 0, .bool false])) ∨ (A ^ N < pw 32 ∧ ∃ zs a c, can zs ∧ val zs = A ^ N ∧ e = .returned (.tuple #[.slice a zs.length c, .bool true]) ∧ Own w.heap.size w' (.slice a zs.length c) zs))

end Go.Proofs.YtadkbcehhdcfaaaDoor

/- Plain facts on how many sets of k things n things have. -/
namespace Go.Proofs.YtadkbcehhdcfaaaDoor
set_option linter.unusedVariables false
set_option linter.unusedSimpArgs false

/-- How many sets of k things n things have. -/
def binom : Nat → Nat → Nat
  | _, 0 => 1
  | 0, _ + 1 => 0
  | n + 1, k + 1 => binom n k + binom n (k + 1)
theorem binom_zero (n : Nat) : binom n 0 = 1 := by cases n <;> rfl
theorem binom_succ (n k : Nat) : binom (n + 1) (k + 1) = binom n k + binom n (k + 1) := rfl
theorem binom_none (k : Nat) : binom 0 (k + 1) = 0 := rfl
theorem binom_lt {n : Nat} : ∀ {k : Nat}, n < k → binom n k = 0 := by
  induction n with
  | zero => intro k h; obtain ⟨j, rfl⟩ : ∃ j, k = j + 1 := ⟨k - 1, by omega⟩; rfl
  | succ n ih =>
    intro k h
    obtain ⟨j, rfl⟩ : ∃ j, k = j + 1 := ⟨k - 1, by omega⟩
    rw [binom_succ, ih (by omega), ih (by omega)]
theorem binom_absorb (n : Nat) : ∀ k, (k + 1) * binom (n + 1) (k + 1) = (n + 1) * binom n k := by
  induction n with
  | zero =>
    intro k
    cases k with
    | zero => rfl
    | succ k => rw [binom_succ, binom_none, binom_none]; simp
  | succ n ih =>
    intro k
    cases k with
    | zero =>
      have h := ih 0
      rw [binom_zero] at h
      rw [binom_succ, binom_zero]
      omega
    | succ j =>
      have h1 := ih j
      have h2 := ih (j + 1)
      rw [binom_succ (n + 1) (j + 1), Nat.mul_add, h2, Nat.add_mul (j + 1) 1, h1]
      have e : (n + 1) * binom n j + (n + 1) * binom n (j + 1) = (n + 1) * binom (n + 1) (j + 1) := by rw [binom_succ n j, Nat.mul_add]
      rw [Nat.add_mul (n + 1) 1]
      omega
theorem binom_sym (n : Nat) : ∀ a b, a + b = n → binom n a = binom n b := by
  induction n with
  | zero => 
    intro a b h
    have h1 : a = 0 ∧ b = 0 := by omega
    rw [h1.1, h1.2]
  | succ n ih =>
    intro a b h
    cases a with
    | zero =>
      obtain rfl : b = n + 1 := by omega
      rw [binom_zero, binom_succ, ih n 0 (by omega), binom_zero, binom_lt (by omega)]
    | succ a =>
      cases b with
      | zero =>
        obtain rfl : a = n := by omega
        rw [binom_zero, binom_succ, ih a 0 (by omega), binom_zero, binom_lt (by omega)]
      | succ b =>
        rw [binom_succ, binom_succ, ih a (b + 1) (by omega), ih (a + 1) b (by omega), Nat.add_comm]
theorem binom_le (n : Nat) : ∀ k, binom n k ≤ 2 ^ n := by
  induction n with
  | zero => intro k; cases k with | zero => exact Nat.le_refl _ | succ k => exact Nat.zero_le _
  | succ n ih =>
    intro k
    cases k with
    | zero => rw [binom_zero]; exact Nat.one_le_two_pow
    | succ k => rw [binom_succ, Nat.pow_succ]; have := ih k; have := ih (k + 1); omega
/-- From the sets of i things of m + i to those of one more of one more. -/
theorem binom_step (m i : Nat) : binom (m + i) i * (m + (i + 1)) = binom (m + (i + 1)) (i + 1) * (i + 1) := by
  have h := binom_absorb (m + i) i
  rw [Nat.mul_comm (binom (m + (i + 1)) (i + 1)), show m + (i + 1) = m + i + 1 by omega, h, Nat.mul_comm]
theorem binom_grow (m i : Nat) : binom (m + i) i ≤ binom (m + (i + 1)) (i + 1) := by
  rw [show m + (i + 1) = m + i + 1 by omega, binom_succ]
  omega
end Go.Proofs.YtadkbcehhdcfaaaDoor

/- rat.choose. -/
namespace Go.Proofs.YtadkbcehhdcfaaaDoor
set_option linter.unusedVariables false
set_option linter.unusedSimpArgs false
open Go.RowKit

theorem binom_mono (M : Nat) {j F : Nat} (h : j ≤ F) : binom (M + j) j ≤ binom (M + F) F := by
  induction F with
  | zero =>
    have hj : j = 0 := by omega
    rw [hj]
    exact Nat.le_refl _
  | succ F ih =>
    by_cases hj : j = F + 1
    · subst hj; exact Nat.le_refl _
    · exact Nat.le_trans (ih (by omega)) (binom_grow M F)

/-- Has a number at most 32 limbs, or more? (Said by name: the walk reckons a bare power.) -/
structure Fits (N : Nat) : Prop where
  is : (N : Int) < pw 32
structure Great (N : Nat) : Prop where
  is : pw 32 ≤ (N : Int)

/-- What rat.choose answers. -/
def Chooses (w : World) (N : Nat) (e : Ending) (w' : World) : Prop :=
  Below w.heap.size w w' ∧ ((pw 32 ≤ (N : Int) ∧ e = errOf 8) ∨ ((N : Int) < pw 32 ∧ ∃ zs ds a1 c1 a2 c2, can zs ∧ val zs = (N : Int) ∧ Hid (ds = [(1 : Int)]) ∧ e = .returned (.tuple #[.agg #[.bool false, .slice a1 zs.length c1, .slice a2 ds.length c2], .int .i64 0]) ∧ Own w.heap.size w' (.slice a1 zs.length c1) zs ∧ Own w.heap.size w' (.slice a2 ds.length c2) ds))

end Go.Proofs.YtadkbcehhdcfaaaDoor

/- rat.isCount. -/
namespace Go.Proofs.YtadkbcehhdcfaaaDoor
set_option linter.unusedVariables false
set_option linter.unusedSimpArgs false
open Go.RowKit

/-- Is a right number whole and not below 0? -/
def IsCount (b : Bool) (ds : List Int) : Prop := ds = [1] ∧ b = false

end Go.Proofs.YtadkbcehhdcfaaaDoor

/- rat.Binomial of two right whole numbers that are not below 0. -/
namespace Go.Proofs.YtadkbcehhdcfaaaDoor
set_option linter.unusedVariables false
set_option linter.unusedSimpArgs false
open Go.RowKit

section
variable {w : World} {a1 a2 a3 a4 : Option Addr} {c1 c2 c3 c4 : Nat} {xn xd yn yd : List Int}
end
end Go.Proofs.YtadkbcehhdcfaaaDoor

/- The document's numbers copied, turned, and without their sign. -/
namespace Go.Proofs.YtadkbcehhdcfaaaDoor
set_option linter.unusedVariables false
set_option linter.unusedSimpArgs false
open Go.RowKit

/-- A number that is answered, in memory of its own. -/
def NumAns (w : World) (b : Bool) (ns ds : List Int) (e : Ending) (w' : World) : Prop :=
  Below w.heap.size w w' ∧ ∃ x1 y1 x2 y2, e = .returned (.agg #[.bool b, .slice x1 ns.length y1, .slice x2 ds.length y2]) ∧ Own w.heap.size w' (.slice x1 ns.length y1) ns ∧ Own w.heap.size w' (.slice x2 ds.length y2) ds

section
variable {w : World} {b : Bool} {a1 a2 : Option Addr} {c1 c2 : Nat} {ns ds : List Int}
theorem in1_new (w : World) (h1 : Rd w.heap.size w (.slice a1 ns.length c1) ns) (h2 : Rd w.heap.size w (.slice a2 ds.length c2) ds) :
    NVar ((w.alloc (.cells #[.bool b, .slice a1 ns.length c1, .slice a2 ds.length c2] 57)).alloc (.cells #[.bool false, .slice none 0 0, .slice none 0 0] 57)) w.heap.size b a1 ns c1 a2 ds c2 ∧ RVar ((w.alloc (.cells #[.bool b, .slice a1 ns.length c1, .slice a2 ds.length c2] 57)).alloc (.cells #[.bool false, .slice none 0 0, .slice none 0 0] 57)) (w.heap.size + 1) ∧ Below w.heap.size w ((w.alloc (.cells #[.bool b, .slice a1 ns.length c1, .slice a2 ds.length c2] 57)).alloc (.cells #[.bool false, .slice none 0 0, .slice none 0 0] 57)) := by
  have X := nvar_new (b := b) h1 h2
  have R := rvar_new (w.alloc (.cells #[.bool b, .slice a1 ns.length c1, .slice a2 ds.length c2] 57))
  have ka := below_alloc (w.alloc (.cells #[.bool b, .slice a1 ns.length c1, .slice a2 ds.length c2] 57)) (.cells #[.bool false, .slice none 0 0, .slice none 0 0] 57)
  rw [World.size_alloc] at R
  exact ⟨X.below ka, R, (below_alloc w _).alloc (by simp) _⟩

end
end Go.Proofs.YtadkbcehhdcfaaaDoor

/- Answers in one form; a variable of a number is given another number. -/
namespace Go.Proofs.YtadkbcehhdcfaaaDoor
set_option linter.unusedVariables false
set_option linter.unusedSimpArgs false
open Go.RowKit

/-- What is told of N by D, where P is asked: an error, or the number. -/
def OutSpec (P : Prop) (N D : Int) (b : Bool) (ns ds : List Int) (err : Int) : Prop :=
  (¬ P ∧ err = 22 ∧ b = false ∧ ns = [] ∧ ds = []) ∨ (P ∧ err = 8 ∧ b = false ∧ ns = [] ∧ ds = [] ∧ Big N D) ∨ (P ∧ err = 0 ∧ RightP b ns ds ∧ sg b (val ns) * D = N * val ds)
theorem OutSpec.unique {P : Prop} {N D : Int} {b c : Bool} {ns ds ms es : List Int} {e f : Int} (hD : P → 0 < D) (h : OutSpec P N D b ns ds e) (k : OutSpec P N D c ms es f) : c = b ∧ ms = ns ∧ es = ds ∧ f = e := by
  rcases h with ⟨hp, rfl, rfl, rfl, rfl⟩ | ⟨hp, rfl, rfl, rfl, rfl, hb⟩ | ⟨hp, rfl, hr, hv⟩ <;> rcases k with ⟨kp, rfl, rfl, rfl, rfl⟩ | ⟨kp, rfl, rfl, rfl, rfl, kb⟩ | ⟨kp, rfl, kr, kv⟩
  · exact ⟨rfl, rfl, rfl, rfl⟩
  · exact absurd kp hp
  · exact absurd kp hp
  · exact absurd hp kp
  · exact ⟨rfl, rfl, rfl, rfl⟩
  · exact absurd hb (not_big kr kv (hD hp))
  · exact absurd hp kp
  · exact absurd kb (not_big hr hv (hD hp))
  · obtain ⟨rfl, rfl, rfl⟩ := right_is hr hv (hD hp) kr kv
    exact ⟨rfl, rfl, rfl, rfl⟩
theorem Gives.spec {w w' : World} {P : Prop} {N D : Int} {e : Ending} (h : Gives w P N D e w') : ∃ b ns ds err, Hid (OutSpec P N D b ns ds err) ∧ RAns w b ns ds err e w' := by
  obtain ⟨hb, b, x1, n, y1, x2, m, y2, err, rfl, hO⟩ := h
  rcases hO.out with ⟨hp, rfl, rfl, rfl, rfl, rfl, rfl, rfl, rfl⟩ | ⟨hp, rfl, rfl, rfl, rfl, rfl, rfl, rfl, rfl, hbig⟩ | ⟨hp, rfl, ns, ds, rfl, rfl, on, od, hr, hv⟩
  · exact ⟨false, [], [], 22, Or.inl ⟨hp, rfl, rfl, rfl, rfl⟩, hb, none, 0, none, 0, rfl, nil_rd _, nil_rd _⟩
  · exact ⟨false, [], [], 8, Or.inr (Or.inl ⟨hp, rfl, rfl, rfl, rfl, hbig⟩), hb, none, 0, none, 0, rfl, nil_rd _, nil_rd _⟩
  · exact ⟨b, ns, ds, 0, Or.inr (Or.inr ⟨hp, rfl, hr, hv⟩), hb, x1, y1, x2, y2, rfl, on.rd, od.rd⟩
/-- Two answers of the same: the second one has the first one's numbers. -/
theorem Gives.same {w w' : World} {P : Prop} {N D : Int} {e : Ending} {b : Bool} {ns ds : List Int} {err : Int} (hD : P → 0 < D) (HS : Hid (OutSpec P N D b ns ds err)) (h : Gives w P N D e w') : RAns w b ns ds err e w' := by
  obtain ⟨c, ms, es, f, HK, hr⟩ := h.spec
  obtain ⟨rfl, rfl, rfl, rfl⟩ := OutSpec.unique hD HS.out HK.out
  exact hr
theorem Gives.of {w w' : World} {P : Prop} {N D M E : Int} {e : Ending} (h : Gives w P N D e w') (hE : P → M = N ∧ E = D) : Gives w P M E e w' := by
  obtain ⟨k1, c, z1, n, z2, z3, m, z4, er, he, hO⟩ := h
  refine ⟨k1, c, z1, n, z2, z3, m, z4, er, he, ?_⟩
  rcases hO.out with h | ⟨h, h2⟩ | ⟨h, h2⟩
  · exact Or.inl h
  · obtain ⟨rfl, rfl⟩ := hE h; exact Or.inr (Or.inl ⟨h, h2⟩)
  · obtain ⟨rfl, rfl⟩ := hE h; exact Or.inr (Or.inr ⟨h, h2⟩)

section
variable {w : World} {b c : Bool} {a1 a2 a3 a4 : Option Addr} {c1 c2 c3 c4 : Nat} {ns ds ms es : List Int} {j k ty : Nat} {x1 x2 : Option Addr} {n1 n2 m1 m2 : Nat}
theorem cell_set3 (h : j ≠ k) (o : Nat) (x y z : Value) : (((w.setCell ⟨k, 0, none⟩ x).setCell ⟨k, 1, none⟩ y).setCell ⟨k, 2, none⟩ z).cell? ⟨j, o, none⟩ = w.cell? ⟨j, o, none⟩ := by
  have hne : ¬ k = j := fun e => h e.symm
  simp [World.setCell, World.cell?, Array.getElem?_modify, hne]
theorem Rd.put {B : Nat} {v : Value} {xs : List Int} (h : Rd B w v xs) (hk : Box3 w k ty (.bool b) (.slice x1 n1 m1) (.slice x2 n2 m2)) (x y z : Value) : Rd B (((w.setCell ⟨k, 0, none⟩ x).setCell ⟨k, 1, none⟩ y).setCell ⟨k, 2, none⟩ z) v xs := by
  obtain ⟨hl, a, cap, hv, h1, h2, h3, h4⟩ := h
  refine ⟨hl, a, cap, hv, h1, h2, h3, ?_⟩
  rcases h4 with h4 | ⟨b', off, ha, hb, hc⟩
  · exact Or.inl h4
  · by_cases h0 : xs.length = 0
    · exact Or.inl h0
    · refine Or.inr ⟨b', off, ha, hb, fun i hi => ?_⟩
      rw [cell_set3 ?_]
      · exact hc i hi
      · rintro rfl
        have h5 := hc 0 (by omega)
        unfold Box3 at hk
        rw [Nat.add_zero] at h5
        match off, h5 with
        | 0, h5 => simp [World.cell?, hk] at h5
        | 1, h5 => simp [World.cell?, hk] at h5
        | 2, h5 => simp [World.cell?, hk] at h5
        | o + 3, h5 => simp [World.cell?, hk] at h5
theorem NVar.put (P : NVar w k b a1 ns c1 a2 ds c2) (h1 : Rd w.heap.size w (.slice a3 ms.length c3) ms) (h2 : Rd w.heap.size w (.slice a4 es.length c4) es) :
    NVar (((w.setCell ⟨k, 0, none⟩ (.bool c)).setCell ⟨k, 1, none⟩ (.slice a3 ms.length c3)).setCell ⟨k, 2, none⟩ (.slice a4 es.length c4)) k c a3 ms c3 a4 es c4 := by
  have szz : (((w.setCell ⟨k, 0, none⟩ (.bool c)).setCell ⟨k, 1, none⟩ (.slice a3 ms.length c3)).setCell ⟨k, 2, none⟩ (.slice a4 es.length c4)).heap.size = w.heap.size := by simp [World.setCell]
  refine ⟨by rw [szz]; exact P.lt, P.box.set _ _ _, ?_, ?_⟩
  · rw [szz]; exact h1.put P.box _ _ _
  · rw [szz]; exact h2.put P.box _ _ _
theorem NVar.by' (X : NVar w j b a1 ns c1 a2 ds c2) (P : NVar w k c a3 ms c3 a4 es c4) (h : j ≠ k) (x y z : Value) : NVar (((w.setCell ⟨k, 0, none⟩ x).setCell ⟨k, 1, none⟩ y).setCell ⟨k, 2, none⟩ z) j b a1 ns c1 a2 ds c2 := by
  have szz : (((w.setCell ⟨k, 0, none⟩ x).setCell ⟨k, 1, none⟩ y).setCell ⟨k, 2, none⟩ z).heap.size = w.heap.size := by simp [World.setCell]
  refine ⟨by rw [szz]; exact X.lt, X.box.other h _ _ _, ?_, ?_⟩
  · rw [szz]; exact X.rn.put P.box _ _ _
  · rw [szz]; exact X.rd.put P.box _ _ _
end
end Go.Proofs.YtadkbcehhdcfaaaDoor

/- rat.Neg, Abs, Ceil. -/
namespace Go.Proofs.YtadkbcehhdcfaaaDoor
set_option linter.unusedVariables false
set_option linter.unusedSimpArgs false
open Go.RowKit

/-- A right number with another sign is right. -/
theorem right_with {b : Bool} {ns ds : List Int} (c : Bool) (h : RightP b ns ds) : RightP (c && decide (0 < ns.length)) ns ds ∧ sg (c && decide (0 < ns.length)) (val ns) = sg c (val ns) := by
  obtain ⟨l1, l2, c1, c2, hb, hd, hg⟩ := h
  by_cases h0 : ns.length = 0
  · have hv := (can_zero c1).1 h0
    have hf : (c && decide (0 < ns.length)) = false := by rw [h0]; simp
    rw [hf]
    refine ⟨⟨l1, l2, c1, c2, ?_, hd, hg⟩, ?_⟩
    · rintro ⟨h, _⟩; cases h
    · rw [hv, sg_zero, sg_zero]
  · have hf : (c && decide (0 < ns.length)) = c := by rw [decide_eq_true (by omega)]; simp
    rw [hf]
    exact ⟨⟨l1, l2, c1, c2, fun h => h0 h.2, hd, hg⟩, rfl⟩
theorem sg_neg (b : Bool) (x : Int) : sg b (-x) = -(sg b x) := by unfold sg; cases b <;> simp
theorem ceil_whole (b : Bool) (n d : Int) (hn : 0 ≤ n) (hd : 0 < d) : sg b (wholeM (!b) n d) = -((-(sg b n)) / d) := by
  have h := floor_whole (!b) n d hn hd
  rw [sg_not, sg_not] at h
  omega
theorem big_neg {N D : Int} (h : Big N D) : Big (-N) D := by
  obtain ⟨b, ns, ds, h1, h2, h3, h4, h5, h6⟩ := h
  exact ⟨!b, ns, ds, h1, h2, h3, h4, by rw [sg_not, Int.neg_mul, Int.neg_mul, h5], h6⟩
/-- A right number is told. -/
theorem gives_num {w wF : World} {P : Prop} {N D : Int} {b : Bool} {ns ds : List Int} {x1 x2 : Option Addr} {y1 y2 : Nat} (hP : P) (hb : Below w.heap.size w wF) (on : Own w.heap.size wF (.slice x1 ns.length y1) ns) (od : Own w.heap.size wF (.slice x2 ds.length y2) ds) (hr : RightP b ns ds) (hv : sg b (val ns) * D = N * val ds) :
    Gives w P N D (.returned (.tuple #[.agg #[.bool b, .slice x1 ns.length y1, .slice x2 ds.length y2], .int .i64 0])) wF :=
  ⟨hb, b, x1, ns.length, y1, x2, ds.length, y2, 0, rfl, Or.inr (Or.inr ⟨hP, rfl, ns, ds, rfl, rfl, on, od, hr, hv⟩)⟩

section
variable {w : World} {b : Bool} {a1 a2 : Option Addr} {c1 c2 : Nat} {ns ds : List Int}
end
end Go.Proofs.YtadkbcehhdcfaaaDoor

/- rat.IsInt, ToInt. -/
namespace Go.Proofs.YtadkbcehhdcfaaaDoor
set_option linter.unusedVariables false
set_option linter.unusedSimpArgs false
open Go.RowKit

/-- Is a number right and whole? -/
def IsWhole (b : Bool) (ns ds : List Int) : Prop := RightP b ns ds ∧ ds = [1]
/-- What is told of a whole number as an int. -/
def IntTold (P : Prop) (z n : Int) (ok : Bool) : Prop := (ok = true ∧ P ∧ -9223372036854775808 ≤ z ∧ z < 9223372036854775808 ∧ n = z) ∨ (ok = false ∧ n = 0 ∧ ¬ (P ∧ -9223372036854775808 ≤ z ∧ z < 9223372036854775808))
theorem IntTold.unique {P : Prop} {z n m : Int} {ok fine : Bool} (h : IntTold P z n ok) (k : IntTold P z m fine) : m = n ∧ fine = ok := by
  rcases h with ⟨rfl, hp, h1, h2, rfl⟩ | ⟨rfl, rfl, h⟩ <;> rcases k with ⟨rfl, kp, k1, k2, rfl⟩ | ⟨rfl, rfl, k⟩
  · exact ⟨rfl, rfl⟩
  · exact absurd ⟨hp, h1, h2⟩ k
  · exact absurd ⟨kp, k1, k2⟩ h
  · exact ⟨rfl, rfl⟩

section
variable {w : World} {b : Bool} {a1 a2 : Option Addr} {c1 c2 : Nat} {ns ds : List Int}
end
end Go.Proofs.YtadkbcehhdcfaaaDoor

/- The document's Sign, OfInt, IsInt. -/
namespace Go.Proofs.YtadkbcehhdcfaaaDoor
set_option linter.unusedVariables false
set_option linter.unusedSimpArgs false
open Go.RowKit

theorem refOf_num (n : Int) (h0 : 0 ≤ n) (h1 : n < 18446744073709551616) (w : World) : Calls Tryd.prog 49 #[.int .u64 n] w fun e w' => ∃ ns, can ns ∧ Hid (val ns = n) ∧ ns.length ≤ 2 ∧ Makes w e w' ns := by
  refine (refOf_any n h0 h1 w).mono ?_
  intro e w' h
  have hc := of_can n h0 h1
  exact ⟨_, hc.1, hc.2.1, hc.2.2, h⟩

section
variable {w : World} {bx : Bool} {a1 a2 : Option Addr} {c1 c2 : Nat} {xn xd : List Int}
end

set_option maxRecDepth 100000 in
set_option maxHeartbeats 3200000 in
theorem refOfInt_any (k : Int) (h0 : -9223372036854775808 ≤ k) (h1 : k < 9223372036854775808) (w : World) : Calls Tryd.prog 32 #[.int .i64 k] w fun e w' => WholeNum w k e w' := by
  have R := rvar_new w
  have g := below_alloc w (.cells #[.bool false, .slice none 0 0, .slice none 0 0] 57)
  go_enter Tryd.func32, Tryd.ntmps32
  by_cases hk : k < 0
  · have hkb : decide (k < 0) = true := decide_eq_true hk
    have hw : IntKind.u64.wrap (-IntKind.u64.wrap k) = -k := by rw [IntKind.wrap_u64, IntKind.wrap_u64]; omega
    go_wp2_with fail
    generalize hA : w.alloc (.cells #[.bool false, .slice none 0 0, .slice none 0 0] 57) = v at *
    clear hA
    refine (refOf_num (-k) (by omega) (by omega) _).mono ?_
    rintro e wa ⟨ns, cn, vn, ln, x1, y1, rfl, o1, ka⟩
    go_wp2_with fail
    refine (refOne_any _).mono ?_
    rintro e wb ⟨ds, x2, y2, HD, rfl, o2, kb⟩
    have t : Below v.heap.size v wb := ka.trans (kb.mono ka.size)
    have Rb := R.below t
    have q0 := Rb.box.c0
    have q1 := Rb.box.c1
    have q2 := Rb.box.c2
    have p0 := Rb.box.f0
    have p1 := Rb.box.f1
    have p2 := Rb.box.f2
    go_wp2
    have hR3 := Rb.box.set (.bool true) (.slice x1 ns.length y1) (.slice x2 ds.length y2)
    have r0 := hR3.c0
    have r1 := hR3.c1
    have r2 := hR3.c2
    refine bodyPost_ret (v := .agg #[.bool true, .slice x1 ns.length y1, .slice x2 ds.length y2]) (by simp [results, Tryd.results32, go_sem, r0, r1, r2]) rfl ?_
    exact ⟨Below.set3 (g.trans (t.mono g.size)) (Nat.le_refl _) _ _ _, true, ns, ds, x1, y1, x2, y2, ⟨hkb.symm, cn, by rw [vn.out, if_pos hk], ln, HD.out⟩, rfl, (Own.set3 (o1.below kb (Nat.le_refl _)) R.lt _ _ _).mono g.size, (Own.set3 (o2.mono ka.size) R.lt _ _ _).mono g.size⟩
  · have hkb : decide (k < 0) = false := decide_eq_false hk
    go_wp2_with fail
    generalize hA : w.alloc (.cells #[.bool false, .slice none 0 0, .slice none 0 0] 57) = v at *
    clear hA
    refine (refOf_num k (by omega) (by omega) _).mono ?_
    rintro e wa ⟨ns, cn, vn, ln, x1, y1, rfl, o1, ka⟩
    go_wp2_with fail
    refine (refOne_any _).mono ?_
    rintro e wb ⟨ds, x2, y2, HD, rfl, o2, kb⟩
    have t : Below v.heap.size v wb := ka.trans (kb.mono ka.size)
    have Rb := R.below t
    have q0 := Rb.box.c0
    have q1 := Rb.box.c1
    have q2 := Rb.box.c2
    have p0 := Rb.box.f0
    have p1 := Rb.box.f1
    have p2 := Rb.box.f2
    go_wp2
    have hR3 := Rb.box.set (.bool false) (.slice x1 ns.length y1) (.slice x2 ds.length y2)
    have r0 := hR3.c0
    have r1 := hR3.c1
    have r2 := hR3.c2
    refine bodyPost_ret (v := .agg #[.bool false, .slice x1 ns.length y1, .slice x2 ds.length y2]) (by simp [results, Tryd.results32, go_sem, r0, r1, r2]) rfl ?_
    exact ⟨Below.set3 (g.trans (t.mono g.size)) (Nat.le_refl _) _ _ _, false, ns, ds, x1, y1, x2, y2, ⟨hkb.symm, cn, by rw [vn.out, if_neg (by omega)], ln, HD.out⟩, rfl, (Own.set3 (o1.below kb (Nat.le_refl _)) R.lt _ _ _).mono g.size, (Own.set3 (o2.mono ka.size) R.lt _ _ _).mono g.size⟩

theorem one_cmp {ds os : List Int} (ho : os = [1]) (cd : can ds) : cmpI (val ds) (val os) = 0 ↔ ds = [1] := by
  subst ho
  rw [cmpI_zero', one_val]
  constructor
  · intro h
    exact can_inj cd can_one (by rw [h, one_val])
  · rintro rfl
    exact one_val
section
variable {w : World} {b : Bool} {a1 a2 : Option Addr} {c1 c2 : Nat} {ns ds : List Int}
end
end Go.Proofs.YtadkbcehhdcfaaaDoor

/- ref01.Same of any two lists. -/
namespace Go.Proofs.YtadkbcehhdcfaaaDoor
set_option linter.unusedVariables false
set_option linter.unusedSimpArgs false
open Go.RowKit

set_option maxHeartbeats 1600000 in
theorem same_no (b1 o1 c1 b2 o2 c2 n : Nat) (xs ys : List Int) (w : World) (hb : n ≤ 9223372036854775807)
    (k1 : ∀ j, j < n → w.cell? ⟨b1, o1 + j, none⟩ = some (.int .u32 (xs.getD j 0)))
    (k2 : ∀ j, j < n → w.cell? ⟨b2, o2 + j, none⟩ = some (.int .u32 (ys.getD j 0))) (hne : ¬ ∀ j, j < n → xs.getD j 0 = ys.getD j 0) :
    Calls Tryd.prog 47 #[.slice (some ⟨b1, o1, none⟩) n c1, .slice (some ⟨b2, o2, none⟩) n c2] w fun e w' => e = .returned (.bool false) ∧ Below w.heap.size w w' := by
  have K1 : Hid (∀ j, j < n → w.cell? ⟨b1, o1 + j, none⟩ = some (.int .u32 (xs.getD j 0))) := k1
  have K2 : Hid (∀ j, j < n → w.cell? ⟨b2, o2 + j, none⟩ = some (.int .u32 (ys.getD j 0))) := k2
  have HN : Hid (¬ ∀ j, j < n → xs.getD j 0 = ys.getD j 0) := hne
  clear k1 k2 hne
  go_enter Tryd.func47, Tryd.ntmps47
  go_wp2
  go_loopw [5] (fun s wr => (∃ q, wr = w.drewN q) ∧ ∃ j : Nat, j ≤ n ∧ s = .int .i64 j ∧ Hid (∀ i, i < j → xs.getD i 0 = ys.getD i 0)) (fun s _ => n - (intOf s).toNat)
  case atStart => exact ⟨⟨0, rfl⟩, 0, Nat.zero_le _, rfl, fun i hi => by omega⟩
  case round =>
    obtain ⟨⟨q, rfl⟩, j, hj, rfl, HE⟩ := hrel
    by_cases hlt : j < n
    · have g1 := K1.out j hlt
      have g2 := K2.out j hlt
      by_cases hpp : xs.getD j 0 = ys.getD j 0
      · have HE2 : Hid (∀ i, i < j + 1 → xs.getD i 0 = ys.getD i 0) := by
          intro i hi
          by_cases h : i = j
          · subst h; exact hpp
          · exact HE.out i (by omega)
        rw [← hpp] at g2
        clear hpp
        generalize xs.getD j 0 = p at *
        go_wp2
        go_quiet (fail)
        go_wp2
        go_roundw
        case rel => exact ⟨⟨_, rfl⟩, j + 1, by omega, by go_num, HE2⟩
        case measure => simp [intOf]; omega
      · generalize xs.getD j 0 = p at *
        generalize ys.getD j 0 = p' at *
        have hpb : (p != p') = true := by rw [bne_iff_ne]; exact hpp
        have hpc : (p == p') = false := by rw [beq_eq_false_iff_ne]; exact hpp
        go_wp2
        go_quiet (fail)
        go_wp2
        go_ret
        exact ⟨rfl, below_drewN' (below_drewN' (Below.refl _ _) _) _⟩
    · exact absurd (fun i hi => HE.out i (by omega)) HN.out

set_option maxHeartbeats 800000 in
theorem same_len (a1 a2 : Option Addr) (n m c1 c2 : Nat) (w : World) (h : ¬ n = m) :
    Calls Tryd.prog 47 #[.slice a1 n c1, .slice a2 m c2] w fun e w' => e = .returned (.bool false) ∧ w = w' := by
  have hb : ((n : Int) != (m : Int)) = true := by rw [bne_iff_ne]; omega
  have hc : ((n : Int) == (m : Int)) = false := by rw [beq_eq_false_iff_ne]; omega
  go_enter Tryd.func47, Tryd.ntmps47
  go_wp2
  go_ret
  exact ⟨rfl, rfl⟩

theorem refSame_any {B B' : Nat} {w : World} {v1 v2 : Value} {xs ys : List Int} (h1 : Rd B w v1 xs) (h2 : Rd B' w v2 ys) :
    Calls Tryd.prog 47 #[v1, v2] w fun e w' => e = .returned (.bool (decide (xs = ys))) ∧ Below w.heap.size w w' := by
  by_cases hxy : xs = ys
  · subst hxy
    rw [decide_eq_true rfl]
    exact same_rd h1 h2
  · rw [decide_eq_false hxy]
    obtain ⟨_, a1, c1, rfl, i1, j1, _, f1⟩ := h1
    obtain ⟨_, a2, c2, rfl, i2, j2, _, f2⟩ := h2
    by_cases hl : xs.length = ys.length
    · by_cases h0 : xs.length = 0
      · exact absurd ((List.length_eq_zero_iff.1 h0).trans (List.length_eq_zero_iff.1 (hl ▸ h0)).symm) hxy
      · rcases f1 with f1 | ⟨b1, o1, rfl, _, k1⟩
        · exact absurd f1 h0
        rcases f2 with f2 | ⟨b2, o2, rfl, _, k2⟩
        · exact absurd (hl.trans f2) h0
        rw [← hl]
        refine (same_no b1 o1 c1 b2 o2 c2 xs.length xs ys w (by omega) k1 (fun j hj => k2 j (by omega)) ?_).mono ?_
        · intro h
          refine hxy (List.ext_getElem hl fun i h1 h2 => ?_)
          have := h i h1
          simpa [List.getD, h1, h2] using this
        · exact fun e w' h => h
    · refine (same_len a1 a2 xs.length ys.length c1 c2 w hl).mono ?_
      rintro e w' ⟨rfl, rfl⟩
      exact ⟨rfl, Below.refl _ _⟩
end Go.Proofs.YtadkbcehhdcfaaaDoor

/- Print of any number: the program's and the document's. -/
namespace Go.Proofs.YtadkbcehhdcfaaaDoor
set_option linter.unusedVariables false
set_option linter.unusedSimpArgs false
open Go.RowKit

/-- What Print tells. -/
def PrintSpec (b : Bool) (ns ds : List Int) (t : ByteArray) : Prop := (RightP b ns ds → t = ratText b ns ds) ∧ (¬ RightP b ns ds → t = ⟨#[]⟩)
theorem PrintSpec.unique {b : Bool} {ns ds : List Int} {t u : ByteArray} (h : PrintSpec b ns ds t) (k : PrintSpec b ns ds u) : u = t := by
  by_cases hr : RightP b ns ds
  · rw [h.1 hr, k.1 hr]
  · rw [h.2 hr, k.2 hr]

section
variable {w : World} {b : Bool} {a1 a2 : Option Addr} {c1 c2 : Nat} {ns ds : List Int}
set_option maxRecDepth 100000 in
set_option maxHeartbeats 6400000 in
theorem refPrint_rat (h1 : Rd w.heap.size w (.slice a1 ns.length c1) ns) (h2 : Rd w.heap.size w (.slice a2 ds.length c2) ds) :
    Calls Tryd.prog 31 #[.agg #[.bool b, .slice a1 ns.length c1, .slice a2 ds.length c2]] w fun e w' => ∃ t, e = .returned (.string t) ∧ Hid (PrintSpec b ns ds t) ∧ Below w.heap.size w w' := by
  have X := nvar_new (b := b) h1 h2
  have g := below_alloc w (.cells #[.bool b, .slice a1 ns.length c1, .slice a2 ds.length c2] 57)
  clear h1 h2
  obtain ⟨X0, X1, X2⟩ := X.cells
  go_enter Tryd.func31, Tryd.ntmps31
  go_wp2_with fail
  clear X0 X1 X2
  generalize hA : w.alloc (.cells #[.bool b, .slice a1 ns.length c1, .slice a2 ds.length c2] 57) = v at *
  clear hA
  refine (refRight_rat X.rn X.rd).mono ?_
  rintro e wa ⟨⟨r, rfl, hr⟩, ba⟩
  replace X := X.below ba
  replace g := g.trans (ba.mono g.size)
  clear ba
  cases r with
  | false =>
    have HP : Hid (¬ RightP b ns ds) := fun h => by have := hr.2 h; cases this
    clear hr
    go_wp2
    go_ret
    exact ⟨_, rfl, ⟨fun k => absurd k HP.out, fun _ => rfl⟩, g⟩
  | true =>
    have HP : Hid (RightP b ns ds) := hr.1 rfl
    clear hr
    have l1 := HP.out.1
    have l2 := HP.out.2.1
    have z1 := digB_size HP.out.2.2.1.1
    have z2 := digB_size HP.out.2.2.2.1.1
    obtain ⟨X0, X1, X2⟩ := X.cells
    go_wp2_with fail
    clear X0 X1 X2
    refine (refPrint_any X.rn (Nat.le_refl _) (by omega)).mono ?_
    rintro e wb ⟨rfl, bb⟩
    have hd1 : (⟨(Lib.decDigits (val ns).toNat).toArray⟩ : ByteArray) = digB ns := rfl
    rw [hd1]
    replace X := X.below bb
    replace g := g.trans (bb.mono g.size)
    clear bb
    have hT : Hid (ratText b ns ds = if ds = [1] then (if b = true then (⟨#[194, 175]⟩ : ByteArray) ++ digB ns else digB ns) else (if b = true then (⟨#[194, 175]⟩ : ByteArray) ++ digB ns else digB ns) ++ ((⟨#[114]⟩ : ByteArray) ++ digB ds)) := rfl
    generalize hD1 : digB ns = D1 at *
    generalize hD2 : digB ds = D2 at *
    obtain ⟨X0, X1, X2⟩ := X.cells
    have hcells : ∀ {w' : World}, Below wb.heap.size wb w' → w'.cell? ⟨w.heap.size, 0, none⟩ = some (.bool b) ∧ w'.cell? ⟨w.heap.size, 1, none⟩ = some (.slice a1 ns.length c1) ∧ w'.cell? ⟨w.heap.size, 2, none⟩ = some (.slice a2 ds.length c2) := fun hb => (X.below hb).cells
    cases b with
    | true =>
      by_cases hone : ds = [1]
      · have HE : Hid (ratText true ns ds = (⟨#[194, 175]⟩ : ByteArray) ++ D1) := by unfold Hid; rw [hT.out, if_pos hone]; simp
        have HO1 : Hid (ds = [1]) := hone
        clear hone
        go_wp2
        go_region_held3 (fun w' => w'.cell? ⟨w.heap.size, 2, none⟩ = some (.slice a2 ds.length c2))
          (first | (go_keep; done) | exact tw | exact tw2)
          (first
            | (go_at_call 48; refine (refOne_any _).mono ?_; rintro e wk ⟨os, x5, y5, HO, rfl, o5, kb'⟩; have tb : Below wb.heap.size wb wk := below_undrew kb'; have tw := (hcells tb).2.2)
            | (have j := tw; go_at_call 47; refine (refSame_any (X.below tb).rd o5.rd).mono ?_; rintro e wc ⟨he, kc⟩; rw [decide_eq_true (show ds = os by rw [HO1.out, HO.out])] at he; subst he; have tc : Below wb.heap.size wb wc := tb.trans (kc.mono tb.size); have tw2 := (hcells tc).2.2))
        all_goals
          go_wp2
          go_ret
          exact ⟨_, rfl, ⟨fun _ => HE.out.symm, fun k => absurd HP.out k⟩, g.trans (tc.mono g.size)⟩
      · have HE : Hid (ratText true ns ds = (⟨#[194, 175]⟩ : ByteArray) ++ D1 ++ ((⟨#[114]⟩ : ByteArray) ++ D2)) := by unfold Hid; rw [hT.out, if_neg hone]; simp
        have HO1 : Hid (¬ ds = [1]) := hone
        clear hone
        go_wp2
        go_region_held3 (fun w' => w'.cell? ⟨w.heap.size, 2, none⟩ = some (.slice a2 ds.length c2))
          (first | (go_keep; done) | exact tw | exact tw2)
          (first
            | (go_at_call 48; refine (refOne_any _).mono ?_; rintro e wk ⟨os, x5, y5, HO, rfl, o5, kb'⟩; have tb : Below wb.heap.size wb wk := below_undrew kb'; have tw := (hcells tb).2.2)
            | (have j := tw; go_at_call 47; refine (refSame_any (X.below tb).rd o5.rd).mono ?_; rintro e wc ⟨he, kc⟩; rw [decide_eq_false (show ¬ ds = os from fun h => HO1.out (h.trans HO.out))] at he; subst he; have tc : Below wb.heap.size wb wc := tb.trans (kc.mono tb.size); have tw2 := (hcells tc).2.2))
        all_goals
          have Xc := X.below tc
          obtain ⟨Y0, Y1, Y2⟩ := Xc.cells
          go_wp2_with fail
          clear Y0 Y1 Y2
          refine (refPrint_any Xc.rd (Nat.le_refl _) (by omega)).mono ?_
          rintro e wd ⟨rfl, bd⟩
          have hd2 : (⟨(Lib.decDigits (val ds).toNat).toArray⟩ : ByteArray) = D2 := hD2
          rw [hd2]
          go_wp2
          go_ret
          exact ⟨_, rfl, ⟨fun _ => HE.out.symm, fun k => absurd HP.out k⟩, (g.trans (tc.mono g.size)).trans (bd.mono (by have := g.size; have := tc.size; omega))⟩
    | false =>
      by_cases hone : ds = [1]
      · have HE : Hid (ratText false ns ds = D1) := by unfold Hid; rw [hT.out, if_pos hone]; simp
        have HO1 : Hid (ds = [1]) := hone
        clear hone
        go_wp2
        go_region_held3 (fun w' => w'.cell? ⟨w.heap.size, 2, none⟩ = some (.slice a2 ds.length c2))
          (first | (go_keep; done) | exact tw | exact tw2)
          (first
            | (go_at_call 48; refine (refOne_any _).mono ?_; rintro e wk ⟨os, x5, y5, HO, rfl, o5, kb'⟩; have tb : Below wb.heap.size wb wk := below_undrew kb'; have tw := (hcells tb).2.2)
            | (have j := tw; go_at_call 47; refine (refSame_any (X.below tb).rd o5.rd).mono ?_; rintro e wc ⟨he, kc⟩; rw [decide_eq_true (show ds = os by rw [HO1.out, HO.out])] at he; subst he; have tc : Below wb.heap.size wb wc := tb.trans (kc.mono tb.size); have tw2 := (hcells tc).2.2))
        all_goals
          go_wp2
          go_ret
          exact ⟨_, rfl, ⟨fun _ => HE.out.symm, fun k => absurd HP.out k⟩, g.trans (tc.mono g.size)⟩
      · have HE : Hid (ratText false ns ds = D1 ++ ((⟨#[114]⟩ : ByteArray) ++ D2)) := by unfold Hid; rw [hT.out, if_neg hone]; simp
        have HO1 : Hid (¬ ds = [1]) := hone
        clear hone
        go_wp2
        go_region_held3 (fun w' => w'.cell? ⟨w.heap.size, 2, none⟩ = some (.slice a2 ds.length c2))
          (first | (go_keep; done) | exact tw | exact tw2)
          (first
            | (go_at_call 48; refine (refOne_any _).mono ?_; rintro e wk ⟨os, x5, y5, HO, rfl, o5, kb'⟩; have tb : Below wb.heap.size wb wk := below_undrew kb'; have tw := (hcells tb).2.2)
            | (have j := tw; go_at_call 47; refine (refSame_any (X.below tb).rd o5.rd).mono ?_; rintro e wc ⟨he, kc⟩; rw [decide_eq_false (show ¬ ds = os from fun h => HO1.out (h.trans HO.out))] at he; subst he; have tc : Below wb.heap.size wb wc := tb.trans (kc.mono tb.size); have tw2 := (hcells tc).2.2))
        all_goals
          have Xc := X.below tc
          obtain ⟨Y0, Y1, Y2⟩ := Xc.cells
          go_wp2_with fail
          clear Y0 Y1 Y2
          refine (refPrint_any Xc.rd (Nat.le_refl _) (by omega)).mono ?_
          rintro e wd ⟨rfl, bd⟩
          have hd2 : (⟨(Lib.decDigits (val ds).toNat).toArray⟩ : ByteArray) = D2 := hD2
          rw [hd2]
          go_wp2
          go_ret
          exact ⟨_, rfl, ⟨fun _ => HE.out.symm, fun k => absurd HP.out k⟩, (g.trans (tc.mono g.size)).trans (bd.mono (by have := g.size; have := tc.size; omega))⟩
end
end Go.Proofs.YtadkbcehhdcfaaaDoor
