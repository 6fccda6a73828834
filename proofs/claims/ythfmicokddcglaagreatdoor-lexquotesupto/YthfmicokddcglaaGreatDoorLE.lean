/- The arrays of tokens. -/
import Derived.Test.YthfmicokddcglaaGreatDoorKX
import Derived.Test.YthfmicokddcglaaGreatDoorL2
import Derived.Test.YthfmicokddcglaaGreatDoorLC
import Derived.Test.YthfmicokddcglaaGreatDoorLA
namespace Go.Proofs.YthfmicokddcglaaGreatDoor
set_option linter.unusedVariables false
set_option linter.unusedSimpArgs false
open Go.RowKit Go.Shelf

/-- An array without boxes, in blocks of its own from base on: cells of ints, limbs, items. -/
def TA (base : Nat) (W : World) (x1 : Option Addr) (n1 y1 : Nat) (x2 : Option Addr) (n2 y2 : Nat) (t : Tr) : Prop :=
  ∃ D : Nat → Prop, (∀ g, D g → base ≤ g ∧ ∃ o, W.heap[g]? = some o ∧ o.isCells = true ∧ (tyOf o = some 3 ∨ tyOf o = some 45 ∨ tyOf o = some 120)) ∧ ArV 1 D W (.slice x1 n1 y1) (.slice x2 n2 y2) t
section
variable {base base' : Nat} {W W' : World} {x1 x2 : Option Addr} {n1 y1 n2 y2 : Nat} {t : Tr}
theorem TA.mono (h : TA base W x1 n1 y1 x2 n2 y2 t) (hb : base' ≤ base) : TA base' W x1 n1 y1 x2 n2 y2 t := by
  obtain ⟨D, h1, h2⟩ := h
  exact ⟨D, fun g hg => ⟨Nat.le_trans hb (h1 g hg).1, (h1 g hg).2⟩, h2⟩
theorem TA.same (h : TA base W x1 n1 y1 x2 n2 y2 t) (hw : ∀ g o, base ≤ g → W.heap[g]? = some o → o.isCells = true → (tyOf o = some 3 ∨ tyOf o = some 45 ∨ tyOf o = some 120) → W'.heap[g]? = W.heap[g]?) : TA base W' x1 n1 y1 x2 n2 y2 t := by
  obtain ⟨D, h1, h2⟩ := h
  have hA : Agree D W W' := fun g hg => by obtain ⟨a, o, b, c, d⟩ := h1 g hg; exact hw g o a b c d
  exact ⟨D, fun g hg => by obtain ⟨a, o, b, c, d⟩ := h1 g hg; exact ⟨a, o, (hw g o a b c d).trans b, c, d⟩, h2.agree hA⟩
theorem TA.below (h : TA base W x1 n1 y1 x2 n2 y2 t) (hb : Below W.heap.size W W') : TA base W' x1 n1 y1 x2 n2 y2 t :=
  h.same (fun g o _ ho _ _ => hb.block g (Array.getElem?_eq_some_iff.1 ho).1)
theorem TA.set (h : TA base W x1 n1 y1 x2 n2 y2 t) (p : Addr) (hp : p.block < base) (u : Value) : TA base (W.setCell p u) x1 n1 y1 x2 n2 y2 t :=
  h.same (fun g o hg _ _ _ => Below.heap_setCell _ _ _ _ (by omega))
end
theorem rdN_nil (D : Nat → Prop) (W : World) : RdN D W (.slice none 0 0) [] := ⟨(fun x h => by cases h), none, 0, rfl, Nat.le_refl _, by omega, fun _ => rfl, Or.inl rfl⟩
theorem rdL_nil (D : Nat → Prop) (W : World) : RdL D W (.slice none 0 0) [] := ⟨lim_nil, none, 0, rfl, Nat.le_refl _, by omega, fun _ => rfl, Or.inl rfl⟩
theorem rowB_nil (D : Nat → Prop) (C : Nat → Nat → Nat → Prop) : RowB D 0 (.slice none 0 0) C := ⟨none, 0, rfl, Nat.le_refl _, by omega, fun _ => rfl, Or.inl rfl⟩
/-- No array at all. -/
theorem TA.none (base : Nat) (W : World) : TA base W none 0 0 none 0 0 (arrT [] []) :=
  ⟨fun _ => False, fun g h => h.elim, rdN_nil _ _, rowB_nil _ _⟩
theorem BoxA.is {w : World} {B ty : Nat} {xs : Array Value} (h : BoxA w B ty xs) : ∃ o, w.heap[B]? = some o ∧ o.isCells = true ∧ tyOf o = some ty := ⟨_, h, rfl, rfl⟩
/-- Limbs of one's own. -/
theorem own_ty {base : Nat} {w : World} {v : Value} {xs : List Int} (h : Own base w v xs) : RdL (fun g => base ≤ g ∧ ∃ o, w.heap[g]? = some o ∧ o.isCells = true ∧ tyOf o = some 120) w v xs := by
  obtain ⟨h0, hl, h | ⟨g, cap, cur, rfl, hg, hh, h1, h2, h3, h4⟩⟩ := h
  · obtain ⟨rfl, hz⟩ := h
    have : xs = [] := List.eq_nil_of_length_eq_zero hz
    subst this
    exact rdL_nil _ _
  · refine ⟨h0, _, cap, rfl, h1, by unfold maxLen at h2; omega, (fun h => by cases h), Or.inr ⟨g, 0, rfl, ⟨hg, _, hh, rfl, rfl⟩, fun j hj => ?_⟩⟩
    have e : cur.toList[j]? = (xs.map (Value.int .u32))[j]? := by rw [← h4, List.getElem?_take]; simp; omega
    rw [getD_map_u32 xs j hj] at e
    simp only [World.cell?, hh, Nat.zero_add]
    simpa using e
/-- A scalar of a number. -/
theorem NumAt.ta {base : Nat} {w : World} {k : Nat} {b : Bool} {ns ds : List Int} (h : NumAt base w k b ns ds) : TA base w none 0 0 (some ⟨k, 0, none⟩) 1 1 (arrT [] [numT b ns ds]) := by
  obtain ⟨h0, z1, y1, z2, y2, hB, o1, o2⟩ := h
  refine ⟨fun g => base ≤ g ∧ ∃ o, w.heap[g]? = some o ∧ o.isCells = true ∧ (tyOf o = some 3 ∨ tyOf o = some 45 ∨ tyOf o = some 120), fun g hg => hg, rdN_nil _ _, _, 1, rfl, Nat.le_refl _, by omega, (fun h => by cases h), Or.inr ⟨k, 0, rfl, ⟨h0, _, hB, rfl, Or.inr (Or.inl rfl)⟩, fun j hj => ?_⟩⟩
  obtain rfl : j = 0 := by simp [arrT, Tr.kids] at hj; omega
  obtain ⟨r0, r1, r2, r3, r4, r5⟩ := hB.num
  have hD : ∀ g, (base ≤ g ∧ ∃ o, w.heap[g]? = some o ∧ o.isCells = true ∧ tyOf o = some 120) → base ≤ g ∧ ∃ o, w.heap[g]? = some o ∧ o.isCells = true ∧ (tyOf o = some 3 ∨ tyOf o = some 45 ∨ tyOf o = some 120) := fun g ⟨a, o, p, q, r⟩ => ⟨a, o, p, q, Or.inr (Or.inr r)⟩
  exact ⟨z1, y1, z2, y2, _, 0, ⟨r0, r1, r2, r3, r4, r5⟩, (own_ty o1).imp hD (fun _ _ => rfl), (own_ty o2).imp hD (fun _ _ => rfl), rowB_nil _ _⟩
/-- A character's item. -/
theorem ch_item {P : Value → Value → Tr → Prop} {D : Nat → Prop} {w : World} {g o : Nat} {c : Int} (h : ∀ k u, (chCells c)[k]? = some u → w.cell? ⟨g, o + k, none⟩ = some u) : ItC P D w g o (charT c) :=
  ⟨none, 0, none, 0, none, 0, ⟨h 0 _ rfl, h 1 _ rfl, h 2 _ rfl, h 3 _ rfl, h 4 _ rfl, h 5 _ rfl⟩, rdL_nil _ _, rdL_nil _ _, rowB_nil _ _⟩
theorem box_ch {P : Value → Value → Tr → Prop} {D : Nat → Prop} {w : World} {k : Nat} {c : Int} (h : BoxA w k 45 #[.int .u8 2, .bool false, .slice none 0 0, .slice none 0 0, .int .i32 c, .slice none 0 0]) : ItC P D w k 0 (charT c) :=
  ⟨none, 0, none, 0, none, 0, ⟨h.cell 0 rfl, h.cell 1 rfl, h.cell 2 rfl, h.cell 3 rfl, h.cell 4 rfl, h.cell 5 rfl⟩, rdL_nil _ _, rdL_nil _ _, rowB_nil _ _⟩
/-- A scalar of a character. -/
theorem charBox_ta {base : Nat} {w : World} {k : Nat} {c : Int} (hk : base ≤ k) (h : BoxA w k 45 #[.int .u8 2, .bool false, .slice none 0 0, .slice none 0 0, .int .i32 c, .slice none 0 0]) : TA base w none 0 0 (some ⟨k, 0, none⟩) 1 1 (arrT [] [charT c]) := by
  refine ⟨fun g => g = k, fun g hg => ?_, rdN_nil _ _, _, 1, rfl, Nat.le_refl _, by omega, (fun h => by cases h), Or.inr ⟨k, 0, rfl, rfl, fun j hj => ?_⟩⟩
  · subst hg
    obtain ⟨o, a, b, c⟩ := h.is
    exact ⟨hk, o, a, b, Or.inr (Or.inl c)⟩
  · obtain rfl : j = 0 := by simp [arrT, Tr.kids] at hj; omega
    exact box_ch h
theorem ch_flat {ys : List Int} {i : Nat} (hi : i < ys.length) (k : Nat) (hk : k < 6) : (ys.flatMap chCells)[6 * i + k]? = (chCells (ys.getD i 0))[k]? := by
  induction ys generalizing i with
  | nil => simp at hi
  | cons x xs ih =>
    rw [List.flatMap_cons]
    cases i with
    | zero => rw [Nat.mul_zero, Nat.zero_add, List.getElem?_append_left (by simpa [chCells] using hk)]; rfl
    | succ i =>
      rw [List.getElem?_append_right (by simp [chCells]; omega)]
      have e : 6 * (i + 1) + k - (chCells x).length = 6 * i + k := by simp [chCells]; omega
      rw [e, ih (by simpa using hi)]
      simp
/-- The array of characters in quotes. -/
def vecA (ys : List Int) : Tr := arrT [(ys.length : Int)] (if ys = [] then [charT 32] else ys.map charT)
def qA (acc : List Int) : Tr := if acc.length = 1 then arrT [] [charT (acc.getD 0 0)] else vecA acc
theorem TextAt.ta {base : Nat} {w : World} {v : Value} {ys : List Int} (h : TextAt base w v ys) (hl : ys.length ≤ 1000000) : ∃ x1 n1 y1 x2 n2 y2, v = .agg #[.slice x1 n1 y1, .slice x2 n2 y2] ∧ TA base w x1 n1 y1 x2 n2 y2 (vecA ys) := by
  obtain ⟨g1, v2, rfl, h1, h2, h3⟩ := h.form
  have hsh : ∀ D : Nat → Prop, D g1 → RdN D w (.slice (some ⟨g1, 0, none⟩) 1 1) [(ys.length : Int)] := fun D hD => by
    refine ⟨fun x hx => by rw [List.mem_singleton.1 hx]; omega, _, 1, rfl, Nat.le_refl _, by omega, (fun h => by cases h), Or.inr ⟨g1, 0, rfl, hD, fun j hj => ?_⟩⟩
    obtain rfl : j = 0 := by simp at hj; omega
    exact h2.cell 0 rfl
  rcases h3 with ⟨rfl, g2, rfl, h4, h5⟩ | ⟨hne, h4⟩
  · refine ⟨_, _, _, _, _, _, rfl, fun g => g = g1 ∨ g = g2, fun g hg => ?_, hsh _ (Or.inl rfl), _, 1, rfl, Nat.le_refl _, by omega, (fun h => by cases h), Or.inr ⟨g2, 0, rfl, Or.inr rfl, fun j hj => ?_⟩⟩
    · rcases hg with rfl | rfl
      · obtain ⟨o, a, b, c⟩ := h2.is
        exact ⟨h1, o, a, b, Or.inl c⟩
      · obtain ⟨o, a, b, c⟩ := h5.is
        exact ⟨h4, o, a, b, Or.inr (Or.inl c)⟩
    · obtain rfl : j = 0 := by simp [vecA, arrT, Tr.kids] at hj; omega
      exact box_ch h5
  · obtain ⟨a, c, rfl⟩ := row_form2 h4
    have h0 : 0 < ys.length := List.length_pos_iff.2 hne
    have hrow := h4
    obtain ⟨_, hx | ⟨g, cap, cur, hv, hg, hh, c1, c2, _, _⟩⟩ := h4
    · omega
    · obtain ⟨rfl, _, rfl⟩ := Value.slice.inj hv
      have hk : (vecA ys).kids = ys.map charT := by unfold vecA arrT Tr.kids; simp only; rw [if_neg hne]
      have hkl : (vecA ys).kids.length = ys.length := by rw [hk]; simp
      refine ⟨_, _, _, _, _, _, rfl, fun q => q = g1 ∨ q = g, fun q hq => ?_, hsh _ (Or.inl rfl), ?_⟩
      · rcases hq with rfl | rfl
        · obtain ⟨o, a, b, c⟩ := h2.is
          exact ⟨h1, o, a, b, Or.inl c⟩
        · exact ⟨hg, _, hh, rfl, Or.inr (Or.inl rfl)⟩
      · refine ⟨_, c, by rw [hkl], by rw [hkl]; exact c1, by unfold maxLen at c2; omega, (fun h => by cases h), Or.inr ⟨g, 0, rfl, Or.inr rfl, fun j hj => ?_⟩⟩
        rw [hkl] at hj
        have e : (vecA ys).kids.getD j tr0 = charT (ys.getD j 0) := by rw [hk]; simp [List.getD, hj]
        rw [e]
        refine ch_item (fun k u hu => ?_)
        have hk6 : k < 6 := by
          refine Decidable.byContradiction fun hn => ?_
          rw [List.getElem?_eq_none (by simp [chCells]; omega)] at hu
          cases hu
        have := hrow.cellAt (6 * j + k) (by omega)
        rw [show 0 + j * 6 + k = 6 * j + k by omega, this, ch_flat hj k hk6]
        exact hu
theorem decs_from (s : ByteArray) : ∀ (l : List Int) (pre : List UInt8) (f : Nat), (∀ c ∈ l, okRune c) → s.data.toList = pre ++ (runesBytes l).data.toList → s.size ≤ pre.length + f → decs s f pre.length = l
  | [], pre, f, _, hs, hf => by
    have hsz : s.data.toList.length = s.size := by simp
    rw [runesBytes_nil, List.append_nil] at hs
    rw [hs] at hsz
    cases f with
    | zero => rw [decs]
    | succ f => rw [decs, if_neg (by omega)]
  | c :: l, pre, f, hok, hs, hf => by
    have hc := hok c (by simp)
    have hlen := enc_len c hc
    have hsz : s.data.toList.length = s.size := by simp
    rw [runesBytes_cons] at hs
    have hl := congrArg List.length hs
    rw [List.length_append, List.length_append, hsz] at hl
    have hd : Utf8.decode s pre.length = (c.toNat, (Utf8.encode c).data.toList.length) := by
      rw [← Lib.decodeL_drop, hs, List.drop_left]
      exact enc_dec c hc _
    obtain ⟨f, rfl⟩ : ∃ g, f = g + 1 := ⟨f - 1, by omega⟩
    have hcn : ((c.toNat : Nat) : Int) = c := by unfold okRune at hc; omega
    rw [decs, if_pos (by omega), hd]
    simp only
    rw [hcn]
    have e : pre.length + (Utf8.encode c).data.toList.length = (pre ++ (Utf8.encode c).data.toList).length := by simp
    rw [e, decs_from s l (pre ++ (Utf8.encode c).data.toList) f (fun d hd => hok d (by simp [hd])) (by rw [hs, List.append_assoc]) (by rw [List.length_append]; omega)]
theorem decs_back (l : List Int) (hok : ∀ c ∈ l, okRune c) : decs (runesBytes l) (runesBytes l).size 0 = l := by
  have := decs_from (runesBytes l) l [] (runesBytes l).size hok (by simp) (by simp)
  simpa using this
section
variable {w : World}
set_option maxRecDepth 100000 in
set_option maxHeartbeats 1600000 in
theorem literal_noneA : Calls Tryz.prog 53 #[.slice none 0 0] w fun e w' => ∃ v, e = .returned v ∧ TextAt w.heap.size w' v [] ∧ Below w.heap.size w w' := by
  have k0 := below_alloc w (.cells #[.slice none 0 0, .slice none 0 0] 35)
  have RA := boxA_new w #[.slice none 0 0, .slice none 0 0] 35
  have s0 : (w.alloc (.cells #[.slice none 0 0, .slice none 0 0] 35)).heap.size = w.heap.size + 1 := by simp
  have hcv : ∀ W : World, (convert 22 9 (.slice none 0 0)).run Tryz.prog W = .ok (.string ⟨#[]⟩) W := fun W => by
    rw [run_convert_runes_string W _ _ _ none 0 0 Tryz.underlying22 Tryz.underlying21 Tryz.underlying9]
    simp [Conv.runesToString, go_sem]
    rfl
  go_enter Tryz.func53, Tryz.ntmps53
  go_wp2_with fail
  generalize w.alloc (.cells #[.slice none 0 0, .slice none 0 0] 35) = w0 at *
  refine (text_any _ w0 (by decide)).mono ?_
  rintro e w3 ⟨v, rfl, hA, k3⟩
  obtain ⟨a1, n1, c1, a2, n2, c2, rfl⟩ := hA.two
  rw [s0] at hA
  have HY : Hid (TextAt (w.heap.size + 1) w3 (.agg #[.slice a1 n1 c1, .slice a2 n2 c2]) []) := hA
  clear hA
  have R3 := RA.below k3 (by omega)
  have kW : Below w.heap.size w w3 := k0.trans (k3.mono (by omega))
  have q0 := R3.frozen 0
  have q1 := R3.frozen 1
  have q2 := R3.cell 0 rfl
  have q3 := R3.cell 1 rfl
  go_wp2
  have R4 := R3.set2 (.slice a1 n1 c1) (.slice a2 n2 c2)
  have x0 := R4.cell 0 rfl
  have x1 := R4.cell 1 rfl
  refine bodyPost_ret (v := .agg #[.slice a1 n1 c1, .slice a2 n2 c2]) (by simp [results, Tryz.results53, go_sem, x0, x1]) rfl ?_
  exact ⟨_, rfl, ((HY.out.setC 0 _).setC 1 _).mono (by omega), (kW.setCell (p := ⟨w.heap.size, 0, none⟩) (Nat.le_refl _) _).setCell (p := ⟨w.heap.size, 1, none⟩) (Nat.le_refl _) _⟩
theorem literal_ownA {base : Nat} {v : Value} {acc : List Int} (h : OwnR base w v acc) (hok : ∀ c ∈ acc, okRune c) (hl : acc.length ≤ 4096) : Calls Tryz.prog 53 #[v] w fun e w' => ∃ x1 n1 y1 x2 n2 y2, e = .returned (.agg #[.slice x1 n1 y1, .slice x2 n2 y2]) ∧ TA w.heap.size w' x1 n1 y1 x2 n2 y2 (qA acc) ∧ Below w.heap.size w w' := by
  have hrow := h
  obtain ⟨_, h | ⟨g, cap, cur, hv, hg, hh, h1, h2, _, _⟩⟩ := h
  · rw [h.1]
    have : acc = [] := List.eq_nil_of_length_eq_zero h.2
    subst this
    refine literal_noneA.mono ?_
    rintro e w' ⟨v, rfl, ht, hb⟩
    obtain ⟨x1, n1, y1, x2, n2, y2, rfl, hA⟩ := ht.ta (by simp)
    exact ⟨x1, n1, y1, x2, n2, y2, rfl, hA, hb⟩
  · subst hv
    have hc : ∀ j, j < acc.length → w.cell? ⟨g, 0 + j, none⟩ = some (.int .i32 (acc.getD j 0)) := fun j hj => by
      have := hrow.cellAt j (by omega)
      rw [Nat.zero_add, this]
      simp [List.getD, hj]
    have hcap : cap ≤ 9223372036854775807 := by unfold maxLen at h2; omega
    by_cases h1l : acc.length = 1
    · have hv := hok (acc.getD 0 0) (getD_mem (by omega))
      have h0 := hc 0 (by omega)
      rw [h1l]
      refine (literal_one (acc.getD 0 0) (by omega) hcap h0 (lt_of_block hh) hv).mono ?_
      rintro e w' ⟨k, rfl, hk, hB, hb⟩
      exact ⟨_, _, _, _, _, _, rfl, (by unfold qA; rw [if_pos h1l]; exact charBox_ta hk hB), hb⟩
    · refine (literal_many h1l h1 hcap hc (lt_of_block hh) (by have := runesBytes_size_le acc; omega)).mono ?_
      rintro e w' ⟨v, rfl, ht, hb⟩
      rw [decs_back acc hok, List.take_of_length_le hl] at ht
      obtain ⟨x1, n1, y1, x2, n2, y2, rfl, hA⟩ := ht.ta (by omega)
      exact ⟨x1, n1, y1, x2, n2, y2, rfl, (by unfold qA; rw [if_neg h1l]; exact hA), hb⟩
end
/-- na tells the array of each number's text. -/
def TellsArr (na : ByteArray → Tr) : Prop := ∀ T b ns ds, TextSpec T b ns ds 0 → (RightP b ns ds → na T = arrT [] [numT b ns ds]) ∧ (¬ RightP b ns ds → na T = arrT [] [numT false [] [1]])
theorem tellsArr_ex : ∃ na, TellsArr na := by
  have h : ∀ T : ByteArray, ∃ t : Tr, ∀ b ns ds, TextSpec T b ns ds 0 → (RightP b ns ds → t = arrT [] [numT b ns ds]) ∧ (¬ RightP b ns ds → t = arrT [] [numT false [] [1]]) := fun T => by
    by_cases hx : ∃ b ns ds, TextSpec T b ns ds 0
    · obtain ⟨b, ns, ds, h⟩ := hx
      by_cases hr : RightP b ns ds
      · refine ⟨arrT [] [numT b ns ds], fun b' ns' ds' h' => ?_⟩
        obtain ⟨rfl, rfl, rfl, _⟩ := h.unique h'
        exact ⟨fun _ => rfl, fun hn => absurd hr hn⟩
      · refine ⟨arrT [] [numT false [] [1]], fun b' ns' ds' h' => ?_⟩
        obtain ⟨rfl, rfl, rfl, _⟩ := h.unique h'
        exact ⟨fun hp => absurd hp hr, fun _ => rfl⟩
    · exact ⟨tr0, fun b ns ds h => absurd ⟨b, ns, ds, h⟩ hx⟩
  exact ⟨fun T => Classical.choose (h T), fun T b ns ds he => Classical.choose_spec (h T) b ns ds he⟩
/-- The array of a token, by its kind and text. -/
noncomputable def arrF (na : ByteArray → Tr) (kd : Int) (tx : ByteArray) : Tr :=
  if kd = 1 then na tx else if kd = 2 then (match qscan (scanR tx tx.size 0 []).1 (scanR tx tx.size 0 []).1.length 1 [] with | some p => qA p.1 | none => arrT [] []) else arrT [] []
end Go.Proofs.YthfmicokddcglaaGreatDoor

/- lex.textAt, with its array. -/
namespace Go.Proofs.YthfmicokddcglaaGreatDoor
set_option linter.unusedVariables false
set_option linter.unusedSimpArgs false
open Go.RowKit Go.Shelf

section
variable {w : World} {cs : List Int} {b off cap : Nat}
set_option maxRecDepth 100000 in
set_option maxHeartbeats 6400000 in
theorem textAt_anyA (at' : Nat) (hat : at' < cs.length) (hl : cs.length ≤ 1024) (hk : cs.length ≤ cap) (hcap : cap ≤ 9223372036854775807) (hc : ∀ m, m < cs.length → w.cell? ⟨b, off + m, none⟩ = some (.int .i32 (cs.getD m 0))) (hlt : b < w.heap.size) (hok : ∀ c ∈ cs, okRune c) :
    Calls Tryz.prog 32 #[.slice (some ⟨b, off, none⟩) cs.length cap, .int .i64 at'] w fun e w' =>
      (∃ acc j, qscan cs cs.length (at' + 1) [] = some (acc, j) ∧ ∃ a1 n1 c1 a2 n2 c2, e = .returned (.tuple #[.agg #[.int .u8 2, .string (cutText cs at' j), .int .i64 at', .slice a1 n1 c1, .slice a2 n2 c2], .int .i64 j, .int .i64 0]) ∧ TA w.heap.size w' a1 n1 c1 a2 n2 c2 (qA acc) ∧ Below w.heap.size w w') ∨
      (qscan cs cs.length (at' + 1) [] = none ∧ e = .returned (.tuple #[.agg #[.int .u8 0, .string ⟨#[]⟩, .int .i64 0, .slice none 0 0, .slice none 0 0], .int .i64 0, .int .i64 26]) ∧ Below w.heap.size w w') := by
  obtain ⟨i0, hi, hz0, hz1, hz2⟩ := info_parts info_i32
  have k0 := below_alloc w (.cells #[.int .u8 0, .string ⟨#[]⟩, .int .i64 0, .slice none 0 0, .slice none 0 0] 37)
  have RT := boxA_new w #[.int .u8 0, .string ⟨#[]⟩, .int .i64 0, .slice none 0 0, .slice none 0 0] 37
  have s0 : (w.alloc (.cells #[.int .u8 0, .string ⟨#[]⟩, .int .i64 0, .slice none 0 0, .slice none 0 0] 37)).heap.size = w.heap.size + 1 := by simp
  have HC : Hid (∀ m, m < cs.length → (w.alloc (.cells #[.int .u8 0, .string ⟨#[]⟩, .int .i64 0, .slice none 0 0, .slice none 0 0] 37)).cell? ⟨b, off + m, none⟩ = some (.int .i32 (cs.getD m 0))) := fun m hm => (k0.cell (p := ⟨b, off + m, none⟩) hlt).trans (hc m hm)
  have HOK : Hid (∀ c ∈ cs, okRune c) := hok
  clear hc hok
  go_enter Tryz.func32, Tryz.ntmps32
  go_wp2_with fail
  generalize w.alloc (.cells #[.int .u8 0, .string ⟨#[]⟩, .int .i64 0, .slice none 0 0, .slice none 0 0] 37) = w0 at *
  go_loopw [7, 8] (fun ct iv wr => ∃ (i f : Nat) (acc : List Int) (a : Option Addr) (c : Nat), ct = .slice a acc.length c ∧ iv = .int .i64 i ∧ OwnR (w.heap.size + 1) wr (.slice a acc.length c) acc ∧ Hid (qscan cs f i acc = qscan cs cs.length (at' + 1) []) ∧ Hid (∀ c ∈ acc, okRune c) ∧ cs.length ≤ i + f ∧ at' < i ∧ acc.length ≤ i ∧ i ≤ cs.length ∧ Below (w.heap.size + 1) w0 wr) (fun _ iv _ => cs.length - (intOf iv).toNat)
  case atStart => exact ⟨at' + 1, cs.length, [], none, 0, rfl, by go_num, World.ownsRow_nil _ _ _ _, rfl, (fun c h => by cases h), by omega, by omega, by simp, by omega, by rw [← s0]; exact Below.refl _ _⟩
  case round =>
    obtain ⟨i, f, acc, a, c, rfl, rfl, hO, HQ, HA, hf, hai, hacc, hile, hb⟩ := hrel
    have hsz := hb.size
    by_cases hil : i < cs.length
    · obtain ⟨f, rfl⟩ : ∃ f', f = f' + 1 := ⟨f - 1, by omega⟩
      have hci := (hb.cell (p := ⟨b, off + i, none⟩) (show b < w.heap.size + 1 by omega)).trans (HC.out i hil)
      have HI : Hid (okRune (cs.getD i 0)) := HOK.out _ (getD_mem hil)
      by_cases h39 : cs.getD i 0 = 39
      · rw [h39] at hci
        have HCr : Hid (∀ m, m < cs.length → wr.cell? ⟨b, off + m, none⟩ = some (.int .i32 (cs.getD m 0))) := fun m hm => (hb.cell (p := ⟨b, off + m, none⟩) (show b < w.heap.size + 1 by omega)).trans (HC.out m hm)
        by_cases hend : i + 1 = cs.length
        · have HE : Hid (qscan cs cs.length (at' + 1) [] = some (acc, i + 1)) := by
            unfold Hid
            rw [← HQ.out, qscan, if_pos hil, if_pos h39, if_pos (Or.inl hend)]
          have he1 : (((i : Int) + 1) == ((cs.length : Nat) : Int)) = true := by rw [beq_iff_eq]; omega
          have he2 : decide (((i : Int) + 1) = ((cs.length : Nat) : Int)) = true := decide_eq_true (by omega)
          clear hend
          go_wp2_with fail
          have hp := piece_any (w := wr) 2 at' (i + 1) (by omega) (by omega) hk hcap HCr.out (by omega)
          rw [show (((i + 1 : Nat)) : Int) = (i : Int) + 1 from rfl] at hp
          refine hp.mono ?_
          clear hp
          rintro e w2 ⟨rfl, k2⟩
          obtain ⟨T, hTT⟩ : ∃ T, cutText cs at' (i + 1) = T := ⟨_, rfl⟩
          have HTc : Hid (cutText cs at' (i + 1) = T) := hTT
          rw [hTT]
          clear hTT
          have s2 := k2.size
          have kt := below_alloc w2 (.cells #[.int .u8 2, .string T, .int .i64 at', .slice none 0 0, .slice none 0 0] 37)
          have Tk := boxA_new w2 #[.int .u8 2, .string T, .int .i64 at', .slice none 0 0, .slice none 0 0] 37
          have st : (w2.alloc (.cells #[.int .u8 2, .string T, .int .i64 at', .slice none 0 0, .slice none 0 0] 37)).heap.size = w2.heap.size + 1 := by simp
          have hO3 := (OwnR.below hO k2 (Nat.le_refl _)).below kt (Nat.le_refl _)
          go_wp2_with fail
          generalize hA : w2.alloc (.cells #[.int .u8 2, .string T, .int .i64 at', .slice none 0 0, .slice none 0 0] 37) = w3 at *
          clear hA
          refine (literal_ownA hO3 HA.out (by omega)).mono ?_
          rintro e w6 ⟨a1, n1, c1, a2, n2, c2, rfl, hTA, k6⟩
          have HTA : Hid (TA w3.heap.size w6 a1 n1 c1 a2 n2 c2 (qA acc)) := hTA
          clear hTA
          have s6 := k6.size
          have Tk6 := Tk.below k6 (by omega)
          have q3 := Tk6.cell 3 rfl
          have q4 := Tk6.cell 4 rfl
          have f3 := Tk6.frozen 3
          have f4 := Tk6.frozen 4
          have Tk7 := Tk6.set34 (.slice a1 n1 c1) (.slice a2 n2 c2)
          have m0 := Tk7.cell 0 rfl
          have m1 := Tk7.cell 1 rfl
          have m2 := Tk7.cell 2 rfl
          have m3 := Tk7.cell 3 rfl
          have m4 := Tk7.cell 4 rfl
          have T6 : Below w.heap.size w w6 := (((k0.trans (hb.mono (by omega))).trans (k2.mono (by omega))).trans (kt.mono (by omega))).trans (k6.mono (by omega))
          have R6 := (((RT.below hb (by omega)).below k2 (by omega)).below kt (by omega)).below k6 (by omega)
          have hRT : w2.heap.size ≠ w.heap.size := by omega
          have R7 := (R6.other (p := ⟨w2.heap.size, 3, none⟩) hRT (.slice a1 n1 c1)).other (p := ⟨w2.heap.size, 4, none⟩) hRT (.slice a2 n2 c2)
          have n0 := R7.cell 0 rfl
          have n1' := R7.cell 1 rfl
          have n2' := R7.cell 2 rfl
          have n3 := R7.cell 3 rfl
          have n4 := R7.cell 4 rfl
          have o0 := R7.frozen 0
          have o1 := R7.frozen 1
          have o2 := R7.frozen 2
          have o3 := R7.frozen 3
          have o4 := R7.frozen 4
          go_wp2
          have R8 := R7.set5 (.int .u8 2) (.string T) (.int .i64 at') (.slice a1 n1 c1) (.slice a2 n2 c2)
          have x0 := R8.cell 0 rfl
          have x1 := R8.cell 1 rfl
          have x2 := R8.cell 2 rfl
          have x3 := R8.cell 3 rfl
          have x4 := R8.cell 4 rfl
          refine bodyPost_ret (v := .tuple #[.agg #[.int .u8 2, .string T, .int .i64 at', .slice a1 n1 c1, .slice a2 n2 c2], .int .i64 ((i : Int) + 1), .int .i64 0]) (by simp [results, Tryz.results32, go_sem, x0, x1, x2, x3, x4]) rfl ?_
          refine Or.inl ⟨acc, i + 1, HE.out, a1, n1, c1, a2, n2, c2, by rw [HTc.out]; rfl, (((((((HTA.out.set ⟨w2.heap.size, 3, none⟩ (show w2.heap.size < w3.heap.size by omega) _).set ⟨w2.heap.size, 4, none⟩ (show w2.heap.size < w3.heap.size by omega) _).set ⟨w.heap.size, 0, none⟩ (show w.heap.size < w3.heap.size by omega) _).set ⟨w.heap.size, 1, none⟩ (show w.heap.size < w3.heap.size by omega) _).set ⟨w.heap.size, 2, none⟩ (show w.heap.size < w3.heap.size by omega) _).set ⟨w.heap.size, 3, none⟩ (show w.heap.size < w3.heap.size by omega) _).set ⟨w.heap.size, 4, none⟩ (show w.heap.size < w3.heap.size by omega) _).mono (by omega), ?_⟩
          exact Below.set5 ((T6.setCell (p := ⟨w2.heap.size, 3, none⟩) (show w.heap.size ≤ w2.heap.size by omega) _).setCell (p := ⟨w2.heap.size, 4, none⟩) (show w.heap.size ≤ w2.heap.size by omega) _) (Nat.le_refl _) _ _ _ _ _
        have hcj := HCr.out (i + 1) (by omega)
        by_cases hd39 : cs.getD (i + 1) 0 = 39
        · rw [hd39] at hcj
          have HS : Hid (qscan cs f (i + 2) (acc ++ [39]) = qscan cs cs.length (at' + 1) []) := by
            unfold Hid
            rw [← HQ.out, qscan, if_pos hil, if_pos h39, if_neg (by omega)]
          go_wp2_with (at_builtin; refine wpList_append_own _ rfl _ _ 22 rfl (w.heap.size + 1) 21 i0 (.int .i32 0) 1 4 Tryz.underlying22 hi hz0 hz1 hz2 rfl (by decide) _ _ _ rfl (hO.alloc _) ⟨wr.heap.size, 0, none⟩ 1 1 [.int .i32 39] rfl rfl ?c1 ?c2 ?c3 ?c4 ?c5 ?_)
          case c1 =>
            intro j u hj
            match j, hj with
            | 0, hj => simp at hj; subst hj; simp [Addr.add]
          case c2 => intro u hu; simp at hu; subst hu; rfl
          case c3 => unfold maxLen; omega
          case c4 => omega
          case c5 => simp; omega
          intro v' w1 hown' hgrow _
          have hO3 : OwnR (w.heap.size + 1) w1 v' (acc ++ [39]) := by
            unfold OwnR
            rw [List.length_append, List.map_append]; exact hown'
          obtain ⟨a2, c2, rfl⟩ := hO3.form
          have hrow : ∀ k, (Value.slice a acc.length c).ownBlock = some k → w.heap.size + 1 ≤ k := fun k hk => (hO.lt k hk).1
          have hb3 : Below (w.heap.size + 1) w0 w1 := (hb.alloc (by omega) _).grown hgrow (by simp; omega) (fun k hk => by have := hrow k hk; omega)
          clear hown' hgrow hO hrow
          go_wp2
          go_roundw
          case rel => exact ⟨i + 2, f, acc ++ [39], a2, c2, (by first | rfl | simp), by go_num, hO3, HS, (ok_app HA.out (by unfold okRune; omega)), by omega, by omega, (by simp; omega), by omega, hb3⟩
          case measure => simp [intOf]; omega
        generalize hD : cs.getD (i + 1) 0 = DC at *
        have HE : Hid (qscan cs cs.length (at' + 1) [] = some (acc, i + 1)) := by
          unfold Hid
          rw [← HQ.out, qscan, if_pos hil, if_pos h39, hD, if_pos (Or.inr hd39)]
        have he1 : (((i : Int) + 1) == ((cs.length : Nat) : Int)) = false := by rw [beq_eq_false_iff_ne]; omega
        have he2 : (DC != 39) = true := by rw [bne_iff_ne]; exact hd39
        go_wp2_with fail
        have hp := piece_any (w := wr) 2 at' (i + 1) (by omega) (by omega) hk hcap HCr.out (by omega)
        rw [show (((i + 1 : Nat)) : Int) = (i : Int) + 1 from rfl] at hp
        refine hp.mono ?_
        clear hp
        rintro e w2 ⟨rfl, k2⟩
        obtain ⟨T, hTT⟩ : ∃ T, cutText cs at' (i + 1) = T := ⟨_, rfl⟩
        have HTc : Hid (cutText cs at' (i + 1) = T) := hTT
        rw [hTT]
        clear hTT
        have s2 := k2.size
        have kt := below_alloc w2 (.cells #[.int .u8 2, .string T, .int .i64 at', .slice none 0 0, .slice none 0 0] 37)
        have Tk := boxA_new w2 #[.int .u8 2, .string T, .int .i64 at', .slice none 0 0, .slice none 0 0] 37
        have st : (w2.alloc (.cells #[.int .u8 2, .string T, .int .i64 at', .slice none 0 0, .slice none 0 0] 37)).heap.size = w2.heap.size + 1 := by simp
        have hO3 := (OwnR.below hO k2 (Nat.le_refl _)).below kt (Nat.le_refl _)
        go_wp2_with fail
        generalize hA : w2.alloc (.cells #[.int .u8 2, .string T, .int .i64 at', .slice none 0 0, .slice none 0 0] 37) = w3 at *
        clear hA
        refine (literal_ownA hO3 HA.out (by omega)).mono ?_
        rintro e w6 ⟨a1, n1, c1, a2, n2, c2, rfl, hTA, k6⟩
        have HTA : Hid (TA w3.heap.size w6 a1 n1 c1 a2 n2 c2 (qA acc)) := hTA
        clear hTA
        have s6 := k6.size
        have Tk6 := Tk.below k6 (by omega)
        have q3 := Tk6.cell 3 rfl
        have q4 := Tk6.cell 4 rfl
        have f3 := Tk6.frozen 3
        have f4 := Tk6.frozen 4
        have Tk7 := Tk6.set34 (.slice a1 n1 c1) (.slice a2 n2 c2)
        have m0 := Tk7.cell 0 rfl
        have m1 := Tk7.cell 1 rfl
        have m2 := Tk7.cell 2 rfl
        have m3 := Tk7.cell 3 rfl
        have m4 := Tk7.cell 4 rfl
        have T6 : Below w.heap.size w w6 := (((k0.trans (hb.mono (by omega))).trans (k2.mono (by omega))).trans (kt.mono (by omega))).trans (k6.mono (by omega))
        have R6 := (((RT.below hb (by omega)).below k2 (by omega)).below kt (by omega)).below k6 (by omega)
        have hRT : w2.heap.size ≠ w.heap.size := by omega
        have R7 := (R6.other (p := ⟨w2.heap.size, 3, none⟩) hRT (.slice a1 n1 c1)).other (p := ⟨w2.heap.size, 4, none⟩) hRT (.slice a2 n2 c2)
        have n0 := R7.cell 0 rfl
        have n1' := R7.cell 1 rfl
        have n2' := R7.cell 2 rfl
        have n3 := R7.cell 3 rfl
        have n4 := R7.cell 4 rfl
        have o0 := R7.frozen 0
        have o1 := R7.frozen 1
        have o2 := R7.frozen 2
        have o3 := R7.frozen 3
        have o4 := R7.frozen 4
        go_wp2
        have R8 := R7.set5 (.int .u8 2) (.string T) (.int .i64 at') (.slice a1 n1 c1) (.slice a2 n2 c2)
        have x0 := R8.cell 0 rfl
        have x1 := R8.cell 1 rfl
        have x2 := R8.cell 2 rfl
        have x3 := R8.cell 3 rfl
        have x4 := R8.cell 4 rfl
        refine bodyPost_ret (v := .tuple #[.agg #[.int .u8 2, .string T, .int .i64 at', .slice a1 n1 c1, .slice a2 n2 c2], .int .i64 ((i : Int) + 1), .int .i64 0]) (by simp [results, Tryz.results32, go_sem, x0, x1, x2, x3, x4]) rfl ?_
        refine Or.inl ⟨acc, i + 1, HE.out, a1, n1, c1, a2, n2, c2, by rw [HTc.out]; rfl, (((((((HTA.out.set ⟨w2.heap.size, 3, none⟩ (show w2.heap.size < w3.heap.size by omega) _).set ⟨w2.heap.size, 4, none⟩ (show w2.heap.size < w3.heap.size by omega) _).set ⟨w.heap.size, 0, none⟩ (show w.heap.size < w3.heap.size by omega) _).set ⟨w.heap.size, 1, none⟩ (show w.heap.size < w3.heap.size by omega) _).set ⟨w.heap.size, 2, none⟩ (show w.heap.size < w3.heap.size by omega) _).set ⟨w.heap.size, 3, none⟩ (show w.heap.size < w3.heap.size by omega) _).set ⟨w.heap.size, 4, none⟩ (show w.heap.size < w3.heap.size by omega) _).mono (by omega), ?_⟩
        exact Below.set5 ((T6.setCell (p := ⟨w2.heap.size, 3, none⟩) (show w.heap.size ≤ w2.heap.size by omega) _).setCell (p := ⟨w2.heap.size, 4, none⟩) (show w.heap.size ≤ w2.heap.size by omega) _) (Nat.le_refl _) _ _ _ _ _
      generalize hC : cs.getD i 0 = C at *
      have HS : Hid (qscan cs f (i + 1) (acc ++ [C]) = qscan cs cs.length (at' + 1) []) := by
        unfold Hid
        rw [← HQ.out, qscan, if_pos hil, hC, if_neg h39]
      go_wp2_with (at_builtin; refine wpList_append_own _ rfl _ _ 22 rfl (w.heap.size + 1) 21 i0 (.int .i32 0) 1 4 Tryz.underlying22 hi hz0 hz1 hz2 rfl (by decide) _ _ _ rfl (hO.alloc _) ⟨wr.heap.size, 0, none⟩ 1 1 [.int .i32 C] rfl rfl ?c1 ?c2 ?c3 ?c4 ?c5 ?_)
      case c1 =>
        intro j u hj
        match j, hj with
        | 0, hj => simp at hj; subst hj; simp [Addr.add]
      case c2 => intro u hu; simp at hu; subst hu; rfl
      case c3 => unfold maxLen; omega
      case c4 => omega
      case c5 => simp; omega
      intro v' w1 hown' hgrow _
      have hO3 : OwnR (w.heap.size + 1) w1 v' (acc ++ [C]) := by
        unfold OwnR
        rw [List.length_append, List.map_append]; exact hown'
      obtain ⟨a2, c2, rfl⟩ := hO3.form
      have hrow : ∀ k, (Value.slice a acc.length c).ownBlock = some k → w.heap.size + 1 ≤ k := fun k hk => (hO.lt k hk).1
      have hb3 : Below (w.heap.size + 1) w0 w1 := (hb.alloc (by omega) _).grown hgrow (by simp; omega) (fun k hk => by have := hrow k hk; omega)
      clear hown' hgrow hO hrow
      go_wp2
      go_roundw
      case rel => exact ⟨i + 1, f, acc ++ [C], a2, c2, (by first | rfl | simp), by go_num, hO3, HS, (ok_app HA.out HI.out), by omega, by omega, (by simp; omega), by omega, hb3⟩
      case measure => simp [intOf]; omega
    · have HN : Hid (qscan cs cs.length (at' + 1) [] = none) := by
        unfold Hid
        rw [← HQ.out]
        cases f with
        | zero => rfl
        | succ f => rw [qscan, if_neg hil]
      have R7 := RT.below hb (by omega)
      have n0 := R7.cell 0 rfl
      have n1 := R7.cell 1 rfl
      have n2 := R7.cell 2 rfl
      have n3 := R7.cell 3 rfl
      have n4 := R7.cell 4 rfl
      have o0 := R7.frozen 0
      have o1 := R7.frozen 1
      have o2 := R7.frozen 2
      have o3 := R7.frozen 3
      have o4 := R7.frozen 4
      go_wp2
      have R8 := R7.set5 (.int .u8 0) (.string ⟨#[]⟩) (.int .i64 0) (.slice none 0 0) (.slice none 0 0)
      have x0 := R8.cell 0 rfl
      have x1 := R8.cell 1 rfl
      have x2 := R8.cell 2 rfl
      have x3 := R8.cell 3 rfl
      have x4 := R8.cell 4 rfl
      refine bodyPost_ret (v := .tuple #[.agg #[.int .u8 0, .string ⟨#[]⟩, .int .i64 0, .slice none 0 0, .slice none 0 0], .int .i64 0, .int .i64 26]) (by simp [results, Tryz.results32, go_sem, x0, x1, x2, x3, x4]) rfl ?_
      exact Or.inr ⟨HN.out, rfl, Below.set5 (k0.trans (hb.mono (by omega))) (Nat.le_refl _) _ _ _ _ _⟩
end
end Go.Proofs.YthfmicokddcglaaGreatDoor
