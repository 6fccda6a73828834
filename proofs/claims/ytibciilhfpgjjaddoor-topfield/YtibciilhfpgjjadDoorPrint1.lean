/- nat.Print of a number below 10^9: one group of digits. -/
import Derived.Test.YtibciilhfpgjjadDoorGroups
namespace Go.Proofs.YtibciilhfpgjjadDoor
set_option linter.unusedVariables false
set_option linter.unusedSimpArgs false
open Go.RowKit

/-- A listed table outlives new memory. -/
theorem tabIs_below {P : Program} {w w' : World} {name : String} {k : IntKind} {zs : List Int} (h : Lib.TabIs P w name k zs) (hb : Below w.heap.size w w') : Lib.TabIs P w' name k zs := by
  unfold Lib.TabIs World.var? at *
  cases hg : P.globalNamed name with
  | none => simp [hg] at h
  | some g =>
    simp only [hg, Option.bind_some] at h ⊢
    have hlt : g < w.heap.size := by
      rcases Nat.lt_or_ge g w.heap.size with h' | h'
      · exact h'
      · rw [Array.getElem?_eq_none h'] at h; simp at h
    rw [hb.block g hlt]
    exact h

theorem val9_low {gs : List Int} (h : lim9 gs) (hne : ¬ gs = []) (hl : ¬ gs.getD (gs.length - 1) 0 = 0) : pw9 (gs.length - 1) ≤ val9 gs := by
  induction gs with
  | nil => exact absurd rfl hne
  | cons x xs ih =>
    have hx := h x (by simp)
    cases xs with
    | nil => simp [val9, pw9] at *; omega
    | cons y ys =>
      have h1 := ih (fun z hz => h z (by simp [hz])) (by simp) (by simpa using hl)
      simp only [List.length_cons, Nat.add_sub_cancel] at *
      rw [pw9_succ]
      rw [show val9 (x :: y :: ys) = x + 1000000000 * val9 (y :: ys) from rfl]
      omega

theorem one_group {gs : List Int} (h : lim9 gs) (hl : gs = [] ∨ ¬ gs.getD (gs.length - 1) 0 = 0) (hv : val9 gs < 1000000000) : gs = [] ∨ ∃ g, gs = [g] := by
  by_cases h0 : gs = []
  · exact Or.inl h0
  · rcases hl with hl | hl
    · exact Or.inl hl
    · have h1 := val9_low h h0 hl
      match gs, h0 with
      | [g], _ => exact Or.inr ⟨g, rfl⟩
      | x :: y :: r, _ =>
        have h2 := pw9_mono (j := 1) (k := (x :: y :: r).length - 1) (by simp)
        have h3 : pw9 1 = 1000000000 := by decide
        omega

/-- What nat.Print hands back: the decimal digits. -/
def Digits (w : World) (n : Int) (e : Ending) (w' : World) : Prop := e = .returned (.string ⟨(Lib.decDigits n.toNat).toArray⟩) ∧ Below w.heap.size w w'

theorem ret_str {s t : ByteArray} (h : s = t) : Ending.returned (.string s) = .returned (.string t) := by rw [h]
theorem digits_zero : (⟨#[48]⟩ : ByteArray) = ⟨(Lib.decDigits (Int.toNat 0)).toArray⟩ := by
  rw [Lib.decDigits_one (by decide)]; rfl

theorem builder_below {T e : TypeId} {B b : Nat} {bs : List Value} {w w' : World} (h : Lib.IsBuilder T e B b bs w) (hb : Below w.heap.size w w') : Lib.IsBuilder T e B b bs w' := by
  have key : ∀ p, Lib.BuilderAt T e B b p bs w → Lib.BuilderAt T e B b p bs w' := by
    intro p ⟨hB, v, hbk, hown, hne⟩
    refine ⟨hB, v, by rw [hb.block b (lt_of_block hbk)]; exact hbk, ?_, hne⟩
    obtain ⟨h1, h | ⟨g, cap, cur, hv, hg, hh, r⟩⟩ := hown
    · exact ⟨h1, Or.inl h⟩
    · exact ⟨h1, Or.inr ⟨g, cap, cur, hv, hg, by rw [hb.block g (lt_of_block hh)]; exact hh, r⟩⟩
  rcases h with h | h
  · exact Or.inl (key _ h)
  · exact Or.inr (key _ h)

theorem nDigits_le {u : Nat} (h : u < 18446744073709551616) : Lib.nDigits u ≤ 20 := by
  by_cases h0 : u < 10
  · rw [Lib.nDigits_small h0]; omega
  · have := Lib.numDigits_eq u (by omega) h; split at this <;> omega

theorem strCells_digits (n : Nat) : Lib.strCells ⟨(Lib.decDigits n).toArray⟩ = Lib.byteCells (Lib.decDigits n) := by
  simp [Lib.strCells, Lib.byteCells]

set_option maxRecDepth 100000 in
set_option maxHeartbeats 1600000 in
theorem print_small {B : Nat} {w : World} {v : Value} {xs : List Int} (h : Rd B w v xs) (hB : B ≤ w.heap.size) (hsz : xs.length ≤ 17592186044) (hv : val xs < 1000000000) (htab : Lib.TabIs Tryd.prog w "internal/strconv.uint64pow10" .u64 Lib.pow10Tab) :
    Calls Tryd.prog 43 #[v] w fun e w' => Digits w (val xs) e w' := by
  go_enter Tryd.func43, Tryd.ntmps43
  go_wp2_with fail
  refine (begin_any h hB (by omega)).mono ?_
  intro e w1 hm1
  obtain ⟨a, c, rfl, ho, hb⟩ := hm1
  have hz := hb.size
  have hl2 := tr_length_le xs
  have cx := tr_can h.lim
  have hvx := val_tr xs
  generalize tr xs = xs' at *
  have HVX : Hid (val xs' = val xs) := hvx
  clear hvx
  go_wp2_with fail
  have hbox : Box (w1.alloc (.cells #[.slice a xs'.length c] 87)) w1.heap.size 87 (.slice a xs'.length c) := heap_alloc_new _ _
  refine (groups_any a c hbox (ho.alloc _) cx (by omega)).mono ?_
  rintro e w2 ⟨gs, a2, c2, rfl, howng, hl9, hv9, hlast, hkept⟩
  have hblw : Below w.heap.size w w2 := (hb.alloc hz _).trans (hkept.below hz (by simp; omega) (fun k hk => (ho.2.lt k hk).1))
  rw [HVX.out] at hv9
  clear hbox hkept
  rcases one_group hl9 hlast (by omega) with hg | ⟨g, hg⟩
  · subst hg
    have hv0 : val xs = 0 := hv9.symm
    have HV0 : Hid (val xs = 0) := hv0
    clear hv0 hv9 hv
    go_wp2
    go_ret
    refine ⟨?_, hblw⟩
    rw [HV0.out]
    exact ret_str digits_zero
  · subst hg
    have hg0 := hl9 g (by simp)
    have hvg : val xs = g := by rw [← hv9]; simp [val9]
    have HVG : Hid (val xs = g) := hvg
    have htab2 := tabIs_below htab hblw
    have hsz2 := hblw.size
    rcases howng.shape with ⟨_, h⟩ | ⟨gb, cap, hveq, hgb1, hgb2, _, _⟩
    · cases h
    have ha2 : a2 = some ⟨gb, 0, none⟩ := by
      have := congrArg (fun v : Value => match v with | .slice a _ _ => a | _ => none) hveq
      exact this
    subst ha2
    have hcell := howng.cellAt rfl 0 (by simp)
    have hcg : w2.cell? ⟨gb, 0, none⟩ = some (.int .u32 g) := hcell
    obtain ⟨u, rfl⟩ := Int.eq_ofNat_of_zero_le hg0.1
    clear hcell hveq hvg hv9 hv
    go_wp2
    refine wp_loop_rounds 2 ?_
    rw [rounds_succ]
    have hcg2 : (w2.alloc (.cells #[.pointer none, .slice none 0 0] 91)).cell? ⟨gb, 0, none⟩ = some (.int .u32 (u : Int)) := by
      rw [((Below.refl w2.heap.size w2).alloc (Nat.le_refl _) _).cell hgb2]; exact hcg
    go_wp2_with fail
    refine (formatUint_any u (by omega) _ (Lib.tabIs_alloc htab2 _)).mono ?_
    rintro e w3 ⟨rfl, hbl3⟩
    have hIB : Lib.IsBuilder 91 5 w2.heap.size w2.heap.size [] w3 := builder_below (Lib.fresh_isBuilder 91 5 w2) hbl3
    have hdl : (Lib.decDigits u).length ≤ 20 := by
      rw [Lib.decDigits_length]; exact nDigits_le (by omega)
    have hs3 := hbl3.size
    have hsd : (ByteArray.mk (Lib.decDigits u).toArray).size = (Lib.decDigits u).length := by simp [ByteArray.size]
    have HSD : Hid ((ByteArray.mk (Lib.decDigits u).toArray).size = (Lib.decDigits u).length ∧ (Lib.decDigits u).length ≤ 20) := ⟨hsd, hdl⟩
    have hsz3 : w2.heap.size ≤ w3.heap.size := by simp at hs3; omega
    clear hsd hdl hs3
    have hwr := writeString_any w2.heap.size w2.heap.size [] ⟨(Lib.decDigits u).toArray⟩ w3 hIB (by have := HSD.out; simp only [List.length_nil]; omega) hsz3
    go_wp2_with fail
    refine hwr.mono ?_
    rintro e w4 ⟨rfl, hBA, hbl4⟩
    clear hwr
    go_wp2
    rw [rounds_succ]
    go_wp2_with fail
    rw [List.nil_append, strCells_digits] at hBA
    refine (Tryd.Builder_String_any w2.heap.size w2.heap.size (Lib.decDigits u) w4 (Or.inr hBA) (by have := hbl4.size; omega)).mono ?_
    rintro e w5 ⟨rfl, hbl5⟩
    go_wp2
    go_ret
    refine ⟨?_, ?_⟩
    · rw [HVG.out]; rfl
    · exact hblw.trans ((((Below.refl _ w2).alloc hsz2 _).trans (hbl3.mono (by simp; omega))).trans ((hbl4.mono hsz2).trans (hbl5.mono hsz2)))
end Go.Proofs.YtibciilhfpgjjadDoor
