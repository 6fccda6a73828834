/- (*running).divideLimb: a running number by one limb, and what is left. -/
import Derived.Test.YtibciilhfpgjjadDoorSum
namespace Go.Proofs.YtibciilhfpgjjadDoor
set_option linter.unusedVariables false
set_option linter.unusedSimpArgs false
open Go.RowKit

theorem or_add (q v : Int) (hq : 0 ≤ q ∧ q < 4294967296) (hv : 0 ≤ v ∧ v < 4294967296) : bits .or .u64 (q * 4294967296) v = q * 4294967296 + v := by
  obtain ⟨a, rfl⟩ := Int.eq_ofNat_of_zero_le hq.1
  obtain ⟨b, rfl⟩ := Int.eq_ofNat_of_zero_le hv.1
  have e : ((a : Int) * 4294967296) = ((a * 4294967296 : Nat) : Int) := by omega
  rw [e, bits_or_u64_nat _ _ (by omega) (by omega)]
  have h : a * 4294967296 ||| b = a * 4294967296 + b := by
    have := Nat.two_pow_add_eq_or_of_lt (i := 32) (b := b) (by omega) a
    rw [Nat.mul_comm]
    exact this.symm
  rw [h]; omega

/-- Nothing that was there has turned but block B and the row r. -/
structure Kept2 (w w' : World) (B : Nat) (r : Option Nat) : Prop where
  os : w'.os = w.os
  tape : w'.tape = w.tape
  output : w'.output = w.output
  size : w.heap.size ≤ w'.heap.size
  block : ∀ k, k < w.heap.size → k ≠ B → some k ≠ r → w'.heap[k]? = w.heap[k]?

theorem Kept2.refl (w : World) (B : Nat) (r : Option Nat) : Kept2 w w B r := ⟨rfl, rfl, rfl, Nat.le_refl _, fun _ _ _ _ => rfl⟩
theorem Kept2.drew {w w' : World} {B : Nat} {r : Option Nat} (h : Kept2 w w' B r) : Kept2 w w'.drew B r := ⟨h.os, h.tape, h.output, h.size, h.block⟩
theorem Kept2.setCell {w w' : World} {B : Nat} {r : Option Nat} (h : Kept2 w w' B r) {p : Addr} (hp : p.block = B ∨ some p.block = r) (u : Value) : Kept2 w (w'.setCell p u) B r :=
  ⟨h.os, h.tape, h.output, by simp [World.setCell]; exact h.size, fun k hk hB hr => by
    rw [Below.heap_setCell _ _ _ _ (fun e => by subst e; rcases hp with hp | hp; exact hB hp; exact hr hp)]; exact h.block k hk hB hr⟩
theorem Kept2.below {w w' : World} {B base : Nat} {r : Option Nat} (h : Kept2 w w' B r) (hB : base ≤ B) (hbs : base ≤ w.heap.size) (hr : ∀ k, r = some k → base ≤ k) : Below base w w' :=
  ⟨h.os, h.tape, h.output, h.size, fun k hk => h.block k (by omega) (by omega) (fun e => by have := hr k e.symm; omega)⟩

theorem Own.drew {base : Nat} {w : World} {v : Value} {xs : List Int} (h : Own base w v xs) : Own base w.drew v xs := h
theorem Box.drew {B ty : Nat} {w : World} {v : Value} (h : Box w B ty v) : Box w.drew B ty v := h

theorem div_step (xs vs : List Int) (j : Nat) (d q t : Int) (hj : j < xs.length) (hl : vs.length = xs.length) (hd0 : 0 < d) (ht : vs.take (j + 1) = xs.take (j + 1)) (h : val (xs.drop (j + 1)) = d * val (vs.drop (j + 1)) + q) (he : t = q * 4294967296 + vs.getD j 0) :
    (vs.set j (t / d)).take j = xs.take j ∧ val (xs.drop j) = d * val ((vs.set j (t / d)).drop j) + t % d := by
  have e1 : xs.drop j = xs.getD j 0 :: xs.drop (j + 1) := by rw [List.drop_eq_getElem_cons hj]; simp [List.getD, hj]
  have hj2 : j < vs.length := by omega
  have e2 : (vs.set j (t / d)).drop j = t / d :: vs.drop (j + 1) := by
    rw [List.drop_eq_getElem_cons (by simpa using hj2)]
    simp [List.drop_set]
  have e3 : vs.getD j 0 = xs.getD j 0 := by
    have h1 : (vs.take (j + 1)).getD j 0 = vs.getD j 0 := by simp only [List.getD, List.getElem?_take]; rw [if_pos (by omega)]
    have h2 : (xs.take (j + 1)).getD j 0 = xs.getD j 0 := by simp only [List.getD, List.getElem?_take]; rw [if_pos (by omega)]
    rw [← h1, ← h2, ht]
  constructor
  · have h1 : vs.take j = xs.take j := by
      have := congrArg (List.take j) ht
      rw [List.take_take, List.take_take] at this
      have e : min j (j + 1) = j := by omega
      rw [e] at this; exact this
    rw [List.take_set_of_le (Nat.le_refl _)]; exact h1
  · have hd : d * (t / d) + t % d = t := Int.mul_ediv_add_emod t d
    rw [e1, e2]
    simp only [val, h]
    rw [e3] at he
    generalize t / d = u at *
    generalize t % d = r at *
    simp only [Int.mul_add, Int.mul_left_comm]
    omega

set_option maxRecDepth 100000 in
set_option maxHeartbeats 1600000 in
theorem divLimb_walk {base B ty : Nat} {w : World} {xs : List Int} (a : Option Addr) (c L : Nat) (d : Int) (hd0 : 0 < d) (hd1 : d < 4294967296) (hty : ty ≠ 51) (hxl : Hid (xs.length = L)) (hbox : Box w B ty (.slice a L c)) (hown : Own base w (.slice a L c) xs)
    (hn : L ≤ 17592186044415) :
    Calls Tryd.prog 79 #[.pointer (some ⟨B, 0, none⟩), .int .u32 d] w fun e w' => e = .returned (.int .u32 (val xs % d)) ∧ ∃ zs, can zs ∧ val zs = val xs / d ∧ zs.length ≤ xs.length ∧ Box w' B ty (.slice a zs.length c) ∧ Own base w' (.slice a zs.length c) zs ∧ Kept2 w w' B (Value.slice a L c).ownBlock := by
  have hc := cell_of_one hbox
  have hf := free_of_one hbox
  have lx := hown.lim
  go_enter Tryd.func79, Tryd.ntmps79
  go_wp2
  go_loopw [6, 5] (fun s r wr => ∃ (j : Nat) (q : Int) (vs : List Int), j ≤ L ∧ s = .int .i64 ((j : Int) - 1) ∧ r = .int .u64 q ∧ 0 ≤ q ∧ q < d ∧ Hid (vs.length = L) ∧ Own base wr (.slice a L c) vs ∧ Box wr B ty (.slice a L c) ∧ Kept2 w wr B (Value.slice a L c).ownBlock ∧ Hid (vs.take j = xs.take j) ∧ Hid (val (xs.drop j) = d * val (vs.drop j) + q))
    (fun s _ _ => (intOf s + 1).toNat)
  case atStart => exact ⟨L, 0, xs, Nat.le_refl _, by go_num, rfl, by omega, hd0, hxl, hown, hbox, Kept2.refl _ _ _, rfl, by unfold Hid; rw [List.drop_of_length_le (by rw [hxl.out]; omega)]; simp [val]⟩
  case round =>
    obtain ⟨j, q, vs, hjL, rfl, rfl, hq0, hq1, hvl, hown3, hbox3, hbl3, htake, hval3⟩ := hrel
    have hc3 := cell_of_one hbox3
    clear hc hf hbox hown
    have hsz3 := hbl3.size
    cases j with
    | zero =>
      have hvl' := hvl.out
      have hrd := hown3.rd
      have hx0 : val xs = d * val vs + q := hval3.out
      have HX0 : Hid (val xs = d * val vs + q) := hx0
      clear hvl' hx0
      go_wp2_with fail
      refine (trimM_any hbox3 hrd).mono ?_
      rintro e w2 ⟨rfl, rfl⟩
      go_wp2
      go_ret
      have hM := hown3.meant
      have hv5 : vtake (.slice a L c) (tl vs vs.length) = .slice a (tr vs).length c := by rw [tr_length]; rfl
      rw [hv5] at hM ⊢
      have hvq : val vs = val xs / d ∧ q = val xs % d := by
        rw [HX0.out]
        exact ⟨(by rw [Int.add_comm, Int.add_mul_ediv_left _ _ (by omega), Int.ediv_eq_zero_of_lt hq0 hq1]; simp), (by rw [Int.add_comm, Int.add_mul_emod_self_left, Int.emod_eq_of_lt hq0 hq1])⟩
      refine ⟨ret_int hvq.2, tr vs, tr_can hown3.lim, by rw [val_tr]; exact hvq.1, ?_, one_setCell hbox3, hM.setCell (own_box_ne hbox3 hM hty) _, hbl3.setCell (Or.inl rfl) _⟩
      have h1 := tr_length_le vs
      have h2 := hvl.out
      have h3 := hxl.out
      omega
    | succ j =>
      rcases hown3.shape with ⟨hnil, hnil2⟩ | ⟨g, cap, hv, hgb, hgs, _, _⟩
      · have := hvl.out; rw [hnil2] at this; simp at this; omega
      have ha2 : a = some ⟨g, 0, none⟩ := by
        have := congrArg (fun v : Value => match v with | .slice a _ _ => a | _ => none) hv
        exact this
      clear hv
      subst ha2
      have hcv := hown3.cellAt hvl.out j (by omega)
      have hfv := hown3.frozenAt hvl.out j
      have rv := lim_getD hown3.lim j
      have hneB := own_box_ne hbox3 hown3 hty
      have hneB' : g ≠ B := fun e => hneB (by rw [e]; rfl)
      generalize hV : vs.getD j 0 = V at *
      have HV : Hid (vs.getD j 0 = V) := hV
      clear hV
      have ej : ((j + 1 : Nat) : Int) - 1 = (j : Int) := by omega
      rw [ej]
      clear ej
      have hor := or_add q V (by omega) rv
      have hT0 : 0 ≤ q * 4294967296 + V := by omega
      have hT1 : q * 4294967296 + V < 18446744073709551616 := by omega
      have hT2 : (q * 4294967296 + V) / d < 4294967296 := Int.ediv_lt_of_lt_mul hd0 (by
        have h1 : (q + 1) * 4294967296 ≤ d * 4294967296 := Int.mul_le_mul_of_nonneg_right (by omega) (by omega)
        rw [Int.mul_comm 4294967296]; omega)
      have hT3 : 0 ≤ (q * 4294967296 + V) / d := Int.ediv_nonneg hT0 (by omega)
      have hT4 : 0 ≤ (q * 4294967296 + V) % d := Int.emod_nonneg _ (by omega)
      have hT5 : (q * 4294967296 + V) % d < d := Int.emod_lt_of_pos _ hd0
      have hdne : (d == 0) = false := by simp; omega
      have hS := hown3.stored hvl.out j ((q * 4294967296 + V) / d) ⟨hT3, hT2⟩
      have hst := div_step xs vs j d q (q * 4294967296 + V) (by rw [hxl.out]; omega) (by rw [hxl.out, hvl.out]) hd0 htake.out hval3.out (by rw [HV.out])
      have HST : Hid ((vs.set j ((q * 4294967296 + V) / d)).take j = xs.take j ∧ val (xs.drop j) = d * val ((vs.set j ((q * 4294967296 + V) / d)).drop j) + (q * 4294967296 + V) % d) := hst
      clear hst
      go_wp2
      go_region
      go_wp2
      go_roundw
      case rel => exact ⟨j, (q * 4294967296 + V) % d, vs.set j ((q * 4294967296 + V) / d), by omega, by go_num, rfl, hT4, hT5, (by unfold Hid; rw [List.length_set]; exact hvl.out), hS.drew, (box_set hbox3 hneB' _ _).drew, (hbl3.setCell (p := ⟨g, j, none⟩) (Or.inr rfl) _).drew, HST.out.1, HST.out.2⟩
      case measure => simp [intOf]

/-- (*running).divideLimb. -/
theorem divLimb_any {base B ty : Nat} {w : World} {xs : List Int} (d : Int) (hd0 : 0 < d) (hd1 : d < 4294967296) (hty : ty ≠ 51) (hs : St base w B ty xs) (hn : xs.length ≤ 17592186044415) :
    Calls Tryd.prog 79 #[.pointer (some ⟨B, 0, none⟩), .int .u32 d] w fun e w' => e = .returned (.int .u32 (val xs % d)) ∧ ∃ zs, can zs ∧ val zs = val xs / d ∧ zs.length ≤ xs.length ∧ St base w' B ty zs ∧ Below base w w' := by
  obtain ⟨a, c, hbox, hown, hBb, hbs⟩ := hs
  refine (divLimb_walk a c xs.length d hd0 hd1 hty rfl hbox hown hn).mono ?_
  rintro e w' ⟨rfl, zs, cz, vz, lz, hb, ho, hk⟩
  exact ⟨rfl, zs, cz, vz, lz, ⟨a, c, hb, ho, hBb, by have := hk.size; omega⟩, hk.below hBb hbs (fun k h => (hown.2.lt k h).1)⟩

end Go.Proofs.YtibciilhfpgjjadDoor
