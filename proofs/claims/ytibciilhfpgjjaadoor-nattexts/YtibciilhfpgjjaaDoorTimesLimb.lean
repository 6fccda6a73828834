/- (*running).timesLimb: the number becomes f times as great, and more is added. -/
import Derived.Test.YtibciilhfpgjjaaDoorDivLimb
namespace Go.Proofs.YtibciilhfpgjjaaDoor
set_option linter.unusedVariables false
set_option linter.unusedSimpArgs false
open Go.RowKit

theorem take_set_succ (vs : List Int) (i : Nat) (z : Int) (h : i < vs.length) : (vs.set i z).take (i + 1) = vs.take i ++ [z] := by
  rw [take_succ_getD _ _ (by simpa using h), getD_set, if_pos ⟨rfl, h⟩]
  congr 1
  rw [List.take_set_of_le (Nat.le_refl _)]
theorem drop_set_succ (vs : List Int) (i : Nat) (z : Int) : (vs.set i z).drop (i + 1) = vs.drop (i + 1) := by
  rw [List.drop_set_of_lt (by omega)]

theorem tl_step (vs xs : List Int) (i : Nat) (C f m t : Int) (hi : i < xs.length) (hl : vs.length = xs.length) (h : val (vs.take i) + C * pw i = val (xs.take i) * f + m) (ht : t = xs.getD i 0 * f + C) :
    val ((vs.set i (t % 4294967296)).take (i + 1)) + t / 4294967296 * pw (i + 1) = val (xs.take (i + 1)) * f + m := by
  rw [take_set_succ vs i _ (by omega), val_append, val_take_succ xs i hi, pw_succ]
  simp only [val, List.length_take]
  rw [Nat.min_eq_left (by omega)]
  have e : t = t % 4294967296 + t / 4294967296 * 4294967296 := by omega
  generalize t % 4294967296 = z at *
  generalize t / 4294967296 = q at *
  have key : (z + q * 4294967296) * pw i = (xs.getD i 0 * f + C) * pw i := by rw [← e, ht]
  simp only [Int.mul_zero, Int.add_zero] at *
  simp only [Int.add_mul, Int.mul_add, Int.mul_assoc, Int.mul_comm, Int.mul_left_comm] at *
  omega

set_option maxHeartbeats 1600000 in
theorem timesLimb_walk {base B ty : Nat} {w : World} {xs : List Int} (a : Option Addr) (c L : Nat) (f m : Int) (hf : 0 ≤ f ∧ f < 4294967296) (hm : 0 ≤ m ∧ m < 4294967296) (hty : ty ≠ 39) (hxl : Hid (xs.length = L)) (hbox : Box w B ty (.slice a L c)) (hown : Own base w (.slice a L c) xs) (hBb : base ≤ B) (hbs : base ≤ w.heap.size)
    (hn : L ≤ 1000000000) :
    Calls Tryd.prog 85 #[.pointer (some ⟨B, 0, none⟩), .int .u32 f, .int .u32 m] w fun e w' => e = .returned (.tuple #[]) ∧ ∃ zs, lim zs ∧ val zs = val xs * f + m ∧ zs.length ≤ L + 1 ∧ L ≤ zs.length ∧ (L < zs.length → ¬ zs.getD (zs.length - 1) 0 = 0) ∧ St base w' B ty zs ∧ Below base w w' := by
  have hc := cell_of_one hbox
  have hf0 := free_of_one hbox
  have lx := hown.lim
  go_enter Tryd.func85, Tryd.ntmps85
  go_wp2
  go_loopw [17, 6] (fun s r wr => ∃ (i : Nat) (C : Int) (vs : List Int), i ≤ L ∧ s = .int .i64 i ∧ r = .int .u64 C ∧ 0 ≤ C ∧ C < 4294967296 ∧ Hid (vs.length = L) ∧ Own base wr (.slice a L c) vs ∧ Box wr B ty (.slice a L c) ∧ Kept2 w wr B (Value.slice a L c).ownBlock ∧ Hid (vs.drop i = xs.drop i) ∧ Hid (val (vs.take i) + C * pw i = val (xs.take i) * f + m))
    (fun s _ _ => L - (intOf s).toNat)
  case atStart => exact ⟨0, m, xs, Nat.zero_le _, rfl, rfl, hm.1, hm.2, hxl, hown, hbox, Kept2.refl _ _ _, rfl, by unfold Hid; simp [val, pw_zero]⟩
  case round =>
    obtain ⟨i, C, vs, hiL, rfl, rfl, hC0, hC1, hvl, hown3, hbox3, hbl3, hdrop, hval3⟩ := hrel
    have hc3 := cell_of_one hbox3
    clear hc hf0 hbox hown
    have hsz3 := hbl3.size
    by_cases hlt : i < L
    · rcases hown3.shape with ⟨hnil, hnil2⟩ | ⟨g, cap, hv, hgb, hgs, _, _⟩
      · have := hvl.out; rw [hnil2] at this; simp at this; omega
      have ha2 : a = some ⟨g, 0, none⟩ := by
        have := congrArg (fun v : Value => match v with | .slice a _ _ => a | _ => none) hv
        exact this
      clear hv
      subst ha2
      have hcv := hown3.cellAt hvl.out i (by omega)
      have hfv := hown3.frozenAt hvl.out i
      have hneB := own_box_ne hbox3 hown3 hty
      have hneB' : g ≠ B := fun e => hneB (by rw [e]; rfl)
      have hvx : vs.getD i 0 = xs.getD i 0 := by
        have h1 := congrArg (fun l : List Int => l.getD 0 0) hdrop.out
        simpa [List.getD, List.getElem?_drop] using h1
      rw [hvx] at hcv
      have rx := lim_getD lx i
      have hmb := mul_bound rx hf
      have hst := tl_step vs xs i C f m _ (by rw [hxl.out]; exact hlt) (by rw [hxl.out, hvl.out]) hval3.out rfl
      have hS := hown3.stored hvl.out i ((xs.getD i 0 * f + C) % 4294967296) (by omega)
      generalize hXF : xs.getD i 0 * f = P at *
      generalize xs.getD i 0 = X at *
      have HXF : X * f = P := hXF
      have HST : Hid (val ((vs.set i ((P + C) % 4294967296)).take (i + 1)) + (P + C) / 4294967296 * pw (i + 1) = val (xs.take (i + 1)) * f + m) := hst
      clear hst hXF
      go_wp2
      go_roundw
      case rel => exact ⟨i + 1, (P + C) / 4294967296, vs.set i ((P + C) % 4294967296), by omega, by go_num, by go_num, by omega, by omega, (by unfold Hid; rw [List.length_set]; exact hvl.out), hS, box_set hbox3 hneB' _ _, hbl3.setCell (p := ⟨g, i, none⟩) (Or.inr rfl) _, (by unfold Hid; rw [drop_set_succ]; have h1 := congrArg (fun l : List Int => l.drop 1) hdrop.out; simpa [List.drop_drop] using h1), HST⟩
      case measure => simp [intOf]; omega
    · obtain rfl : i = L := by omega
      have hvl' := hvl.out
      have hSt : St base wr B ty vs := ⟨a, c, by rw [hvl']; exact hbox3, by rw [hvl']; exact hown3, hBb, by omega⟩
      have hfin : val vs + C * pw vs.length = val xs * f + m := by
        have h3 := hval3.out
        rw [List.take_of_length_le (by omega), List.take_of_length_le (by rw [hxl.out]; omega), ← hvl'] at h3
        exact h3
      have HF : Hid (val vs + C * pw vs.length = val xs * f + m) := hfin
      have HL : Hid (vs.length = i) := hvl'
      have hlv : vs.length ≤ 17592186044416 := by omega
      clear hfin hvl'
      go_wp2_with fail
      refine (push_any C hC0 hC1 hty hSt hlv).mono ?_
      rintro e w2 ⟨rfl, hst2, hb2⟩
      go_wp2
      go_end0
      have hL := HL.out
      have hlim : lim (pushed vs C) := by obtain ⟨_, _, _, ho, _⟩ := hst2; exact ho.lim
      refine ⟨rfl, pushed vs C, hlim, by rw [val_pushed]; exact HF.out, ?_, ?_, ?_, hst2, (hbl3.below hBb hbs (fun k hk => (hown3.2.lt k hk).1)).trans hb2⟩
      · unfold pushed; split
        · omega
        · simp; omega
      · unfold pushed; split
        · omega
        · simp; omega
      · unfold pushed; split
        · intro h; omega
        · intro _
          rw [List.length_append]
          simp
          assumption

/-- (*running).timesLimb on right limbs. -/
theorem timesLimb_any {base B ty : Nat} {w : World} {xs : List Int} (f m : Int) (hf : 1 ≤ f ∧ f < 4294967296) (hm : 0 ≤ m ∧ m < 4294967296) (hty : ty ≠ 39) (cx : can xs) (hs : St base w B ty xs) (hn : xs.length ≤ 1000000000) :
    Calls Tryd.prog 85 #[.pointer (some ⟨B, 0, none⟩), .int .u32 f, .int .u32 m] w fun e w' => e = .returned (.tuple #[]) ∧ ∃ zs, can zs ∧ val zs = val xs * f + m ∧ zs.length ≤ xs.length + 1 ∧ St base w' B ty zs ∧ Below base w w' := by
  obtain ⟨a, c, hbox, hown, hBb, hbs⟩ := hs
  refine (timesLimb_walk a c xs.length f m (by omega) hm hty rfl hbox hown hBb hbs hn).mono ?_
  rintro e w' ⟨rfl, zs, lz, vz, l1, l2, ht, hst, hb⟩
  refine ⟨rfl, zs, ?_, vz, l1, hst, hb⟩
  by_cases hl : xs.length < zs.length
  · exact ⟨lz, Or.inr (ht hl)⟩
  · have e : zs.length = xs.length := by omega
    refine can_of_low lz ?_
    by_cases h0 : xs.length = 0
    · left; omega
    · right
      have h1 := can_low cx (by omega)
      have h2 : val xs * 1 ≤ val xs * f := Int.mul_le_mul_of_nonneg_left (by omega) (val_bound cx.1).1
      rw [e]; omega
end Go.Proofs.YtibciilhfpgjjaaDoor
