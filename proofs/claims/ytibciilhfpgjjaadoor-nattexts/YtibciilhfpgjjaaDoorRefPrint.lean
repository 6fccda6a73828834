/- The document's Print: the decimal digits. -/
import Derived.Test.YtibciilhfpgjjaaDoorRef15
import Derived.Test.YtibciilhfpgjjaaDoorParse
namespace Go.Proofs.YtibciilhfpgjjaaDoor
set_option linter.unusedVariables false
set_option linter.unusedSimpArgs false
open Go.RowKit

/-- Where Print stands: what is left of the number, and the digits behind it. -/
def Behind (V n : Nat) (l : List UInt8) : Prop := (0 < n → Lib.decDigits V = Lib.decDigits n ++ l) ∧ (n = 0 → l = [] ∧ V = 0 ∨ l = Lib.decDigits V ∧ 0 < V)

theorem behind_start (V : Nat) : Behind V V [] := ⟨fun _ => by simp, fun h => Or.inl ⟨rfl, h⟩⟩
theorem behind_step {V n q d : Nat} {l : List UInt8} (h : Behind V n l) (hn : 0 < n) (he : n = q * 10 + d) (hd : d < 10) : Behind V q ([UInt8.ofNat (48 + d)] ++ l) := by
  have h1 := h.1 hn
  refine ⟨fun hq => ?_, fun hq => Or.inr ⟨?_, ?_⟩⟩
  · rw [h1, Lib.decDigits, dif_neg (by omega), show n / 10 = q by omega, show n % 10 = d by omega, List.append_assoc]
  · rw [h1, Lib.decDigits, dif_pos (by omega), show n = d by omega]
  · by_cases h0 : V = 0
    · subst h0
      have := congrArg List.length h1
      rw [List.length_append, Lib.decDigits_length, Lib.decDigits_length, Lib.nDigits_small (by omega)] at this
      have h2 := Lib.nDigits_pos n
      have hl : l = [] := List.eq_nil_of_length_eq_zero (by omega)
      rw [hl, List.append_nil] at h1
      have h3 := congrArg dval h1
      rw [(dval_decDigits 0).1, (dval_decDigits n).1] at h3
      omega
    · omega

theorem val_ten : val [10] = 10 := by decide

/-- string of a slice of one new byte. -/
theorem one_byte (w : World) (x : Int) (d : Nat) (hd : d < 10) (hx : x = 48 + (d : Int)) : (convert 74 9 (.slice (some ⟨w.heap.size, 0, none⟩) 1 1)).run Tryd.prog (w.alloc (.cells #[.int .u8 x] 5)) = .ok (.string ⟨#[UInt8.ofNat (48 + d)]⟩) (w.alloc (.cells #[.int .u8 x] 5)) := by
  have h := run_convert_bytes_back (P := Tryd.prog) (w.alloc (.cells #[.int .u8 x] 5)) 74 9 5 ⟨w.heap.size, 0, none⟩ 1 [UInt8.ofNat (48 + d)] Tryd.underlying74 Tryd.underlying5 Tryd.underlying9 (fun j hj => by
    have hj0 : j = 0 := by simpa using hj
    subst hj0
    simp only [List.getElem_cons_zero, digit_toNat d hd]
    subst hx
    simp [Addr.add])
  exact h

theorem pw_ten (L : Nat) : pw L ≤ ((10 ^ (10 * L) : Nat) : Int) := by
  induction L with
  | zero => decide
  | succ L ih =>
    rw [pw_succ, Nat.mul_succ, Nat.pow_add, Int.natCast_mul]
    have h1 : (0 : Int) ≤ ((10 ^ (10 * L) : Nat) : Int) := Int.natCast_nonneg _
    have e : ((10 ^ 10 : Nat) : Int) = 10000000000 := by decide
    rw [e]
    have := pw_pos L
    generalize ((10 ^ (10 * L) : Nat) : Int) = T at *
    omega

theorem digits_bound {V L : Nat} (h : (V : Int) < pw L) : (Lib.decDigits V).length ≤ 10 * L + 1 := by
  refine decDigits_le (10 * L + 1) V (by omega) ?_
  have h1 := pw_ten L
  have h2 : 10 ^ (10 * L) ≤ 10 ^ (10 * L + 1) := Nat.pow_le_pow_right (by decide) (by omega)
  omega

set_option maxRecDepth 100000 in
set_option maxHeartbeats 3200000 in
theorem refPrint_any {B : Nat} {w : World} {v : Value} {xs : List Int} (h : Rd B w v xs) (hB : B ≤ w.heap.size) (hn : xs.length ≤ 100000) :
    Calls Tryd.prog 41 #[v] w fun e w' => Digits w (val xs) e w' := by
  have hO1 : Own w.heap.size (w.alloc (.cells #[.int .u32 10] 39)) (.slice (some ⟨w.heap.size, 0, none⟩) [(10 : Int)].length 1) [10] := ⟨fun x hx => by simp at hx; omega, World.ownsRow_lit w #[.int .u32 10] 1 (Nat.le_refl _) (by unfold maxLen; omega) rfl⟩
  have b0 : Below w.heap.size w (w.alloc (.cells #[.int .u32 10] 39)) := (Below.refl _ _).alloc (Nat.le_refl _) _
  have h' := h.below (b0.mono hB)
  have s0 := b0.size
  have ct := tr_can h.lim
  have hle := tr_length_le xs
  have HV : Hid (val (tr xs) = val xs ∧ 0 ≤ val xs) := ⟨val_tr xs, (val_bound h.lim).1⟩
  obtain ⟨V, hV⟩ := Int.eq_ofNat_of_zero_le HV.out.2
  have hDB : (Lib.decDigits V).length ≤ 10 * xs.length + 1 := digits_bound (by rw [← hV]; exact (val_bound h.lim).2)
  rw [hV]
  go_enter Tryd.func41, Tryd.ntmps41
  go_wp2_with fail
  refine (refTrim_rd h' (by omega)).mono ?_
  rintro e wa ⟨a1, q1, rfl, o1, ba⟩
  have bw : Below w.heap.size w wa := b0.trans (ba.mono s0)
  have o10 := hO1.below ba (Nat.le_refl _)
  have o1w : Own w.heap.size wa (.slice a1 (tr xs).length q1) (tr xs) := o1.mono s0
  have sa := bw.size
  generalize tr xs = us at *
  clear h h' hO1 b0 ba o1 s0
  go_wp2
  go_loopg [3, 5] V (fun g sv bv wr => ∃ (S : ByteArray) (l : List UInt8) (bs : List Int) (a : Option Addr) (c n : Nat), Hid (g = n) ∧ sv = .string S ∧ Hid (S.data.toList = l) ∧ bv = .slice a bs.length c ∧ can bs ∧ Hid (val bs = (n : Int)) ∧ Hid (Behind V n l) ∧ bs.length ≤ xs.length ∧ Own w.heap.size wr (.slice a bs.length c) bs ∧ Below wa.heap.size wa wr)
  case atStart => exact ⟨⟨#[]⟩, [], us, a1, q1, V, rfl, rfl, rfl, rfl, ct, (by unfold Hid; rw [HV.out.1, hV]), behind_start V, hle, o1w, Below.refl _ _⟩
  case round =>
    obtain ⟨S, l, bs, a, c, g, hgg, rfl, hS, rfl, cb, hg, hbe, hbl', ob, hbl⟩ := hrel
    have hs := hbl.size
    by_cases h0 : 0 < bs.length
    · have hpos := pos_len cb (by omega)
      have HP : Hid (0 < g) := by unfold Hid; have := hg.out; omega
      have hlt := (val_bound cb.1).2
      clear hpos
      have r10 := o10.below hbl (Nat.le_refl _)
      go_wp2_with fail
      refine (refDivMod_any ob.rd (Nat.le_refl _) r10.rd (Nat.le_refl _) (by omega) (by simp) (by rw [val_ten]; decide)).mono ?_
      rintro e w2 ⟨qs, rs, a3, c3, a4, c4, rfl, oq, or, cq, cr, hv, hl, b2⟩
      rw [val_ten] at hv hl
      have s2 := b2.size
      have hqn := (val_bound cq.1).1
      have hrn := (val_bound cr.1).1
      obtain ⟨d, hd⟩ := Int.eq_ofNat_of_zero_le hrn
      obtain ⟨q, hq⟩ := Int.eq_ofNat_of_zero_le hqn
      have hd10 : d < 10 := by omega
      have HBE : Hid (Behind V q ([UInt8.ofNat (48 + d)] ++ l)) := behind_step hbe.out HP.out (by have := hg.out; omega) hd10
      have hQ : Hid (val qs = (q : Int) ∧ q < g) := ⟨hq, by have := hg.out; have := HP.out; omega⟩
      have hql : qs.length ≤ bs.length := len_of_lt cq (by omega)
      have hSs : S.size ≤ 10000000 := by
        have h1 := congrArg List.length (hbe.out.1 HP.out)
        rw [List.length_append] at h1
        have h2 : S.size = l.length := by rw [← hS.out]; rfl
        omega
      have hSl : Hid ((⟨#[UInt8.ofNat (48 + d)]⟩ ++ S : ByteArray).data.toList = [UInt8.ofNat (48 + d)] ++ l) := by
        unfold Hid; rw [ByteArray.data_append, Array.toList_append, hS.out]
      by_cases hr0 : 0 < rs.length
      · obtain ⟨g4, f4, rfl, k4⟩ := low_cell or (by omega)
        have hrs := limbs_of cr (d : Int) (by have := pos_len cr (by omega); omega) (by omega) hd
        have k4' : w2.cell? ⟨g4, f4, none⟩ = some (.int .u32 (d : Int)) := by rw [k4, hrs]; rfl
        have hcv := one_byte w2 (48 + (d : Int)) d hd10 rfl
        clear hv hl hd hq hqn hrn k4 hrs hlt
        go_wp2
        go_roundg q
        case measure => have := hgg.out; have := hQ.out; omega
        case rel => exact ⟨⟨#[UInt8.ofNat (48 + d)]⟩ ++ S, _, qs, a3, c3, q, rfl, (by first | rfl | simp), hSl, rfl, cq, hQ.out.1, HBE, by omega, (oq.alloc _).mono (by omega), hbl.trans ((b2.mono hs).alloc (by omega) _)⟩
      · have hd0 : d = 0 := by
          have := (can_zero cr).1 (by omega)
          omega
        subst hd0
        have hcv := one_byte w2 48 0 hd10 rfl
        clear hv hl hd hq hqn hrn hlt
        go_wp2
        go_roundg q
        case measure => have := hgg.out; have := hQ.out; omega
        case rel => exact ⟨⟨#[UInt8.ofNat (48 + 0)]⟩ ++ S, _, qs, a3, c3, q, rfl, (by first | rfl | simp), hSl, rfl, cq, hQ.out.1, HBE, by omega, (oq.alloc _).mono (by omega), hbl.trans ((b2.mono hs).alloc (by omega) _)⟩
    · have hz := (can_zero cb).1 (by omega)
      have hg0 : g = 0 := by have := hg.out; omega
      rcases hbe.out.2 hg0 with ⟨hl0, hV0⟩ | ⟨hl1, hV1⟩
      · have hE : S.toList.isEmpty = true := by rw [ByteArray.toList_eq, hS.out, hl0]; rfl
        have HV0 : Hid (V = 0) := hV0
        clear hl0 hV0 hz hg0
        go_wp2
        go_ret
        refine ⟨?_, bw.trans (hbl.mono sa)⟩
        rw [HV0.out]
        exact ret_str digits_zero
      · have hE : S.toList.isEmpty = false := by
          rw [ByteArray.toList_eq, hS.out, hl1]
          have := (dval_decDigits V).2.2
          cases hD : Lib.decDigits V with
          | nil => rw [hD] at this; simp at this
          | cons => rfl
        have HSV : Hid (S = ⟨(Lib.decDigits V).toArray⟩) := by
          unfold Hid
          obtain ⟨⟨sl⟩⟩ := S
          have := hS.out
          rw [hl1] at this
          simp at this
          rw [this]
        clear hl1 hV1 hz hg0
        go_wp2
        go_ret
        refine ⟨?_, bw.trans (hbl.mono sa)⟩
        exact ret_str HSV.out
end Go.Proofs.YtibciilhfpgjjaaDoor
