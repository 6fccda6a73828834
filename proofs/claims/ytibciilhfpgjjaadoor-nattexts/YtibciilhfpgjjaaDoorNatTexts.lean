/- The statement NatTexts' walk: numbers have just their decimal texts, and texts their numbers. -/
import Derived.Test.YtibciilhfpgjjaaDoorReads
import Derived.Test.YtibciilhfpgjjaaDoorPrints
namespace Go.Proofs.YtibciilhfpgjjaaDoor
set_option linter.unusedVariables false
set_option linter.unusedSimpArgs false
open Go.RowKit

theorem isNum_digits (n : Nat) : isNum (Lib.decDigits n) := ⟨(dval_decDigits n).2.1, (dval_decDigits n).2.2⟩

theorem rd_nil (w : World) : Rd w.heap.size w (.slice none 0 0) [] := (own_nil w.heap.size w).rd

/-- Both readings of a text, in one form. -/
def Reads (w : World) (l : List UInt8) (e : Ending) (w' : World) : Prop :=
  ∃ zs a c b, e = .returned (.tuple #[.slice a zs.length c, .bool b]) ∧ Own w.heap.size w' (.slice a zs.length c) zs ∧ Hid ((isNum l ∧ b = true ∧ can zs ∧ val zs = dval l) ∨ (¬ isNum l ∧ b = false ∧ zs = [])) ∧ Below w.heap.size w w'

theorem Parses.reads {w w' : World} {l : List UInt8} {e : Ending} (h : Parses w l e w') : Reads w l e w' := by
  obtain ⟨hb, h1, h2⟩ := h
  by_cases hn : isNum l
  · obtain ⟨zs, a, c, cz, vz, he, ho⟩ := h1 hn
    exact ⟨zs, a, c, true, he, ho, Or.inl ⟨hn, rfl, cz, vz⟩, hb⟩
  · exact ⟨[], none, 0, false, h2 hn, own_nil _ _, Or.inr ⟨hn, rfl, rfl⟩, hb⟩

theorem reads_same {l : List UInt8} {zs us : List Int} {b c : Bool} (h : Hid ((isNum l ∧ b = true ∧ can zs ∧ val zs = dval l) ∨ (¬ isNum l ∧ b = false ∧ zs = []))) (k : Hid ((isNum l ∧ c = true ∧ can us ∧ val us = dval l) ∨ (¬ isNum l ∧ c = false ∧ us = []))) : zs = us ∧ b = c := by
  rcases h.out with ⟨h1, rfl, h3, h4⟩ | ⟨h1, rfl, h3⟩ <;> rcases k.out with ⟨k1, rfl, k3, k4⟩ | ⟨k1, rfl, k3⟩
  · exact ⟨can_inj h3 k3 (h4.trans k4.symm), rfl⟩
  · exact absurd h1 k1
  · exact absurd k1 h1
  · exact ⟨h3.trans k3.symm, rfl⟩

set_option maxRecDepth 100000 in
set_option maxHeartbeats 6400000 in
theorem natTexts_walk {w : World} {v1 : Value} {x1 : List Int} {s : ByteArray} (h1 : Rd w.heap.size w v1 x1) (hs0 : s.size ≤ maxLen) (htab : Lib.TabIs Tryd.prog w "internal/strconv.uint64pow10" .u64 Lib.pow10Tab) :
    Calls Tryd.prog 7 #[v1, .string s] w fun e w' => e = .returned (.bool true) ∧ Below w.heap.size w w' := by
  have hs : s.size ≤ 9223372036854775807 := by unfold maxLen at hs0; exact hs0
  clear hs0
  go_enter Tryd.func7, Tryd.ntmps7
  by_cases h300 : 300 < s.size
  case' pos =>
    obtain ⟨S, hS⟩ : ∃ S, S = s.extract 0 300 := ⟨_, rfl⟩
    have hSl : S.data.toList.length ≤ 300 := by rw [hS, extract_list]; simp; omega
  case' neg =>
    obtain ⟨S, hS⟩ : ∃ S, S = s := ⟨_, rfl⟩
    have hSl : S.data.toList.length ≤ 300 := by
      have : S.data.toList.length = S.size := rfl
      rw [this, hS]; omega
  all_goals
    go_wp2_with fail
    refine (few_rd h1).mono ?_
    rintro e w' ⟨y1, p1, q1, hy1, l1, rfl, r1, rfl⟩
    try rw [← hS]
    clear hS h300
    obtain ⟨l, hl⟩ : ∃ l, Hid (S.data.toList = l) := ⟨_, rfl⟩
    have hll : l.length ≤ 300 := by rw [← hl.out]; exact hSl
    clear hSl
    have nv := (val_bound r1.lim).1
    obtain ⟨n, hn⟩ := Int.eq_ofNat_of_zero_le nv
    have hDB : (Lib.decDigits n).length ≤ 10 * y1.length + 1 := digits_bound (by rw [← hn]; exact (val_bound r1.lim).2)
    have HVN : Hid (val y1 = (n : Int)) := hn
    clear nv hn
    go_wp2_with fail
    refine (print_any r1 (Nat.le_refl _) (by omega) htab).mono ?_
    rintro e wa ⟨rfl, ba⟩
    rw [HVN.out]
    have sa := ba.size
    obtain ⟨T, hT⟩ : ∃ T, T = (⟨(Lib.decDigits (Int.toNat (n : Int))).toArray⟩ : ByteArray) := ⟨_, rfl⟩
    have hTl : Hid (T.data.toList = Lib.decDigits n) := by unfold Hid; rw [hT]; simp
    have HT : Hid (T = ⟨(Lib.decDigits n).toArray⟩) := by unfold Hid; rw [hT]; simp
    rw [← hT]
    clear hT
    go_wp2_with fail
    refine (parse_any T (Lib.decDigits n) hTl (by omega)).mono ?_
    rintro e wb hpb
    obtain ⟨zb, ab, qb, bb', rfl, ob, hrb, bb⟩ := hpb.reads
    clear hpb
    have hzb : Hid (zb = tr y1) ∧ bb' = true := by
      rcases hrb.out with ⟨_, h2, h3, h4⟩ | ⟨h2, _⟩
      · refine ⟨can_inj h3 (tr_can r1.lim) ?_, h2⟩
        rw [val_tr, h4, HVN.out, (dval_decDigits n).1]
      · exact absurd (isNum_digits n) h2
    obtain ⟨hzb, rfl⟩ := hzb
    clear hrb
    have sb := bb.size
    have bw2 : Below w.heap.size w wb := ba.trans (bb.mono sa)
    go_wp2_with fail
    refine (parse_any S l hl (by omega)).mono ?_
    rintro e wc hpc
    obtain ⟨zc, ac, qc, bc', rfl, oc, hrc, bc⟩ := hpc.reads
    clear hpc
    have sc := bc.size
    have bw3 : Below w.heap.size w wc := bw2.trans (bc.mono (by omega))
    go_wp2_with fail
    refine (refParse_any S l hl (by omega)).mono ?_
    rintro e wd hpd
    obtain ⟨zd, ad, qd, bd', rfl, od, hrd, bd⟩ := hpd.reads
    clear hpd
    obtain ⟨rfl, rfl⟩ := reads_same hrc hrd
    clear hrc hrd
    have sd := bd.size
    have bw4 : Below w.heap.size w wd := bw3.trans (bd.mono (by omega))
    have ob4 := (ob.below bc (Nat.le_refl _)).below bd (Nat.le_refl _)
    have oc4 := oc.below bd (Nat.le_refl _)
    clear ob oc
    go_wp2_with fail
    refine (live_any _ (tabIs_below htab bw4)).mono ?_
    rintro e we ⟨rfl, be⟩
    have se := be.size
    have bw5 : Below w.heap.size w we := bw4.trans (be.mono (by omega))
    have ob5 := ob4.below be (Nat.le_refl _)
    have oc5 := oc4.below be (Nat.le_refl _)
    have od5 := od.below be (Nat.le_refl _)
    clear ob4 oc4 od
    go_wp2_with fail
    refine (few_rd (h1.below bw5)).mono ?_
    rintro e w' ⟨t1, p4, q4, ht1, _, rfl, r4, rfl⟩
    obtain rfl : t1 = y1 := by rw [ht1.out, hy1.out]
    go_wp2_with fail
    refine (refPrint_any r4 (by omega) (by omega)).mono ?_
    rintro e wf ⟨rfl, bf⟩
    rw [HVN.out]
    have sf := bf.size
    have bw6 : Below w.heap.size w wf := bw5.trans (bf.mono (by omega))
    have hTT : (⟨(Lib.decDigits (Int.toNat (n : Int))).toArray⟩ : ByteArray) = T := by rw [HT.out]; simp
    rw [hTT]
    clear hTT
    have ob6 := ob5.below bf (Nat.le_refl _)
    have oc6 := oc5.below bf (Nat.le_refl _)
    have od6 := od5.below bf (Nat.le_refl _)
    clear ob5 oc5 od5 r4
    go_wp2_with fail
    refine (few_rd (h1.below bw6)).mono ?_
    rintro e w' ⟨t2, p5, q5, ht2, _, rfl, r5, rfl⟩
    obtain rfl : t2 = t1 := by rw [ht2.out, hy1.out]
    go_wp2_with fail
    refine (refTrim_rd r5 (by omega)).mono ?_
    rintro e wg ⟨ag, qg, rfl, og, bg⟩
    have sg := bg.size
    have bw7 : Below w.heap.size w wg := bw6.trans (bg.mono (by omega))
    have ob7 := ob6.below bg (Nat.le_refl _)
    have oc7 := oc6.below bg (Nat.le_refl _)
    have od7 := od6.below bg (Nat.le_refl _)
    clear ob6 oc6 od6 r5
    obtain rfl := hzb.out
    generalize tr t2 = us at *
    go_wp2_with fail
    refine (same_rd ob7.rd og.rd).mono ?_
    rintro e wh ⟨rfl, bh⟩
    have sh' := bh.size
    have bw8 : Below w.heap.size w wh := bw7.trans (bh.mono (by omega))
    go_wp2_with fail
    refine (same_rd (oc7.below bh (Nat.le_refl _)).rd (od7.below bh (Nat.le_refl _)).rd).mono ?_
    rintro e wi ⟨rfl, bi⟩
    have bw9 : Below w.heap.size w wi := bw8.trans (bi.mono (by omega))
    go_wp2
    go_ret
    exact ⟨rfl, bw9⟩
end Go.Proofs.YtibciilhfpgjjaaDoor
