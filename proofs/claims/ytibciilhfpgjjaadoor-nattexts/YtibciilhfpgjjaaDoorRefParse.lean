/- The document's Parse. -/
import Derived.Test.YtibciilhfpgjjaaDoorRef15
import Derived.Test.YtibciilhfpgjjaaDoorParse
import Derived.Deep.RegionWith
namespace Go.Proofs.YtibciilhfpgjjaaDoor
set_option linter.unusedVariables false
set_option linter.unusedSimpArgs false
open Go.RowKit

set_option maxRecDepth 100000 in
set_option maxHeartbeats 3200000 in
theorem refParse_any {w : World} (s : ByteArray) (l : List UInt8) (hl : Hid (s.data.toList = l)) (hb : l.length ≤ 100000) :
    Calls Tryd.prog 40 #[.string s] w fun e w' => Parses w l e w' := by
  have hsz : s.size = l.length := by rw [← hl.out]; rfl
  go_enter Tryd.func40, Tryd.ntmps40
  go_wp2
  go_loopw [4, 5] (fun nv ii wr => ∃ (i : Nat) (zs : List Int) (a : Option Addr) (c : Nat), i ≤ l.length ∧ ii = .int .i64 i ∧ nv = .slice a zs.length c ∧ can zs ∧ Hid (digs (l.take i) ∧ val zs = dval (l.take i)) ∧ zs.length ≤ 3 * i ∧ Hid (i = 0 → a = none ∧ c = 0) ∧ Own w.heap.size wr (.slice a zs.length c) zs ∧ Below w.heap.size w wr)
    (fun _ ii _ => l.length - (intOf ii).toNat)
  case atStart => exact ⟨0, [], none, 0, Nat.zero_le _, rfl, rfl, can_nil, ⟨(fun b hb => by simp at hb), rfl⟩, by simp, (fun _ => ⟨rfl, rfl⟩), own_nil _ _, Below.refl _ _⟩
  case round =>
    obtain ⟨i, zs, a, c, hi, rfl, rfl, cz, hdz, hzl, h00, oz, hbl⟩ := hrel
    have hs := hbl.size
    by_cases hlt : i < l.length
    · have his : i < s.size := by omega
      have hse : s[i].toNat = l[i].toNat := by rw [byte_at hl.out i hlt]
      have HM : Hid (l[i] ∈ l) := List.getElem_mem hlt
      have HT : Hid (48 ≤ l[i].toNat → l[i].toNat ≤ 57 → digs (l.take (i + 1)) ∧ dval (l.take (i + 1)) = dval (l.take i) * 10 + (l[i].toNat - 48)) := by
        intro h1 h2
        rw [List.take_succ_eq_append_getElem hlt]
        refine ⟨fun b hb => ?_, dval_snoc _ _⟩
        rw [List.mem_append] at hb
        rcases hb with hb | hb
        · exact hdz.out.1 b hb
        · rw [List.mem_singleton] at hb; subst hb; exact ⟨h1, h2⟩
      have HN : Hid (l[i].toNat < 48 ∨ 57 < l[i].toNat → ¬ isNum l) := by
        intro h hn
        have := hn.1 _ HM.out
        omega
      clear HM
      generalize l[i].toNat = D at *
      have hcs : D < 48 ∨ (¬ D < 48 ∧ 57 < D) ∨ (¬ D < 48 ∧ ¬ 57 < D) := by omega
      rcases hcs with h | ⟨h, h'⟩ | ⟨h, h'⟩
      · have HX : Hid (¬ isNum l) := HN.out (Or.inl h)
        go_wp2
        go_ret2
        exact ⟨hbl, fun h => absurd h HX.out, fun _ => rfl⟩
      · have HX : Hid (¬ isNum l) := HN.out (Or.inr h')
        go_wp2
        go_ret2
        exact ⟨hbl, fun h => absurd h HX.out, fun _ => rfl⟩
      · have HX := HT.out (by omega) (by omega)
        have HX2 : Hid (digs (l.take (i + 1)) ∧ ((dval (l.take (i + 1)) : Nat) : Int) = val zs * 10 + ((D : Int) - 48)) := ⟨HX.1, by rw [HX.2, hdz.out.2]; omega⟩
        clear HX HT HN
        have ozd : Own w.heap.size wr.drew (.slice a zs.length c) zs := oz
        have hz1 := (ozd.alloc (.cells #[.int .u32 10] 39)).rd
        have h10 : Own wr.drew.heap.size (wr.drew.alloc (.cells #[.int .u32 10] 39)) (.slice (some ⟨wr.drew.heap.size, 0, none⟩) 1 1) [10] := ⟨fun x hx => by simp at hx; omega, World.ownsRow_lit wr.drew #[.int .u32 10] 1 (Nat.le_refl _) (by unfold maxLen; omega) rfl⟩
        have bz1 : Below w.heap.size w (wr.drew.alloc (.cells #[.int .u32 10] 39)) := Below.alloc (⟨hbl.os, hbl.tape, hbl.output, hbl.size, hbl.block⟩ : Below w.heap.size w wr.drew) hs _
        have sz1 := bz1.size
        have hw8 : IntKind.u8.wrap ((D : Int) - 48) = (D : Int) - 48 := by rw [IntKind.wrap_u8]; omega
        have hw64 : IntKind.u64.wrap ((D : Int) - 48) = (D : Int) - 48 := by rw [IntKind.wrap_u64]; omega
        have hD0 : 0 ≤ (D : Int) - 48 ∧ (D : Int) - 48 < 10 := by omega
        have hlim2 : lim [((D : Int) - 48) % 4294967296, ((D : Int) - 48) / 4294967296] := by
          intro x hx
          simp at hx
          rcases hx with rfl | rfl <;> omega
        have HOF : Hid (can (tr [((D : Int) - 48) % 4294967296, ((D : Int) - 48) / 4294967296]) ∧ val (tr [((D : Int) - 48) % 4294967296, ((D : Int) - 48) / 4294967296]) = (D : Int) - 48 ∧ (tr [((D : Int) - 48) % 4294967296, ((D : Int) - 48) / 4294967296]).length ≤ 2) := ⟨tr_can hlim2, by rw [val_tr]; simp only [val]; omega, tr_length_le _⟩
        clear hlim2
        go_wp2
        go_region_with
          (first
          | (go_at_call 53; refine (refMul_any hz1 (Nat.le_refl _) h10.rd (Nat.le_refl _) (by omega) (by simp)).mono ?_; rintro e w2 ⟨us, cu, vu, lu, a3, c3, rfl, o3, b3⟩)
          | (go_at_call 20; refine (refOf_any ((D : Int) - 48) (by omega) (by omega) _).mono ?_; intro e w3 hm3; generalize tr [((D : Int) - 48) % 4294967296, ((D : Int) - 48) / 4294967296] = ds at *; obtain ⟨a4, c4, rfl, o4, b4⟩ := hm3)
          | (go_at_call 50; refine (refAdd_any (o3.below b4 (Nat.le_refl _)).rd (Nat.le_refl _) o4.rd (Nat.le_refl _) (by have : [(10 : Int)].length = 1 := rfl; omega) (by have := HOF.out; omega)).mono ?_; rintro e w5 ⟨rs, cr, vr, lr, a5, c5, rfl, o5, b5⟩))
        all_goals
          have HR : Hid (digs (l.take (i + 1)) ∧ val rs = dval (l.take (i + 1))) := ⟨HX2.out.1, by rw [vr, vu, HX2.out.2, HOF.out.2.1]; rfl⟩
          have hrl : rs.length ≤ 3 * (i + 1) := by
            have e10 : [(10 : Int)].length = 1 := rfl
            have := HOF.out.2.2
            omega
          have s2 := b3.size
          have s3 := b4.size
          have bw5 : Below w.heap.size w w5 := bz1.trans ((b3.mono sz1).trans ((b4.mono (by omega)).trans (b5.mono (by omega))))
          have o5w : Own w.heap.size w5 (.slice a5 rs.length c5) rs := o5.mono (by omega)
          clear vr vu lr lu o5 o4 o3 b3 b4 b5 hz1 h10 ozd bz1
          go_wp2
          go_roundw
          case rel => exact ⟨i + 1, rs, a5, c5, by omega, by go_num, rfl, cr, HR, hrl, (fun h => by omega), o5w, bw5⟩
          case measure => simp [intOf]; omega
    · obtain rfl : i = l.length := by omega
      have hd2 := hdz.out
      rw [List.take_length] at hd2
      have HD : Hid (digs l ∧ val zs = dval l) := hd2
      clear hd2
      by_cases h0 : 0 < l.length
      · have HN : Hid (isNum l) := ⟨HD.out.1, h0⟩
        go_wp2
        go_ret2
        exact ⟨hbl, fun _ => ⟨zs, a, c, cz, HD.out.2, rfl, oz⟩, fun h => absurd HN.out h⟩
      · have HN : Hid (¬ isNum l) := fun h => absurd h.2 h0
        obtain rfl : zs = [] := List.eq_nil_of_length_eq_zero (by omega)
        obtain ⟨rfl, rfl⟩ := h00.out (by omega)
        go_wp2
        go_ret2
        exact ⟨hbl, fun h => absurd h HN.out, fun _ => rfl⟩
end Go.Proofs.YtibciilhfpgjjaaDoor
