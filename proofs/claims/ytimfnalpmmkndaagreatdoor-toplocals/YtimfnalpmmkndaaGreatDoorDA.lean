/- What a header says, by its tokens: the mathematics. -/
import Derived.Test.YtimfnalpmmkndaaGreatDoorLC
import Derived.Test.YtimfnalpmmkndaaGreatDoorSA
import Derived.Deep.RegionHeld3
namespace Go.Proofs.YtimfnalpmmkndaaGreatDoor
set_option linter.unusedVariables false
set_option linter.unusedSimpArgs false
open Go.RowKit

abbrev Tk := Int × ByteArray × Nat × Int
def tkd (T : List Tk) (k : Nat) : Int := (T.getD k (0, ⟨#[]⟩, 0, 0)).1
def ttx (T : List Tk) (k : Nat) : ByteArray := (T.getD k (0, ⟨#[]⟩, 0, 0)).2.1
def arwT : ByteArray := ⟨#[226, 134, 144]⟩
def semT : ByteArray := ⟨#[59]⟩
def colT : ByteArray := ⟨#[58]⟩
def EndT (T : List Tk) : Prop := ∃ l p, T = l ++ [(0, ⟨#[]⟩, p, 0)]
theorem itemsF_end (ne : ByteArray → Int) (cs : List Int) : ∀ f i, i ≤ cs.length → cs.length < i + f → (∀ x ∈ itemsF ne cs f i, x.2.2.2 = 0) → EndT (itemsF ne cs f i)
 | 0, i, h1, h2, _ => by omega
 | f + 1, i, h1, h2, he => by
  rw [itemsF] at he ⊢
  by_cases hi : i < cs.length
  · rw [if_pos hi] at he ⊢
    by_cases h0 : (nextF ne cs i).2.2 = 0
    · rw [if_pos h0] at he ⊢
      have hn := nextF_end ne cs i hi h0
      have hp := passTo_le (cs := cs) (i := (nextF ne cs i).2.1) hn.2
      obtain ⟨l, p, e⟩ := itemsF_end ne cs f _ hp.2 (by omega) (fun x hx => he x (List.mem_cons_of_mem _ hx))
      exact ⟨_ :: l, p, by rw [e]; rfl⟩
    · rw [if_neg h0] at he
      exact absurd (he _ (List.mem_singleton.2 rfl)) h0
  · rw [if_neg hi]
    exact ⟨[], i, rfl⟩
theorem allF_end {ne : ByteArray → Int} {s : ByteArray} (h : (allF ne s).2.1 = 0) : EndT (allF ne s).1 := by
 obtain ⟨_, _, h3, h4⟩ := allF_ok h
 rw [h3]
 have hp := passTo_le (cs := (scanR s s.size 0 []).1) (Nat.zero_le _)
 exact itemsF_end ne _ _ _ hp.2 (by omega) (itemsF_er ne _ _ _ h4)
theorem EndT.pos {T : List Tk} (h : EndT T) : 0 < T.length := by
 obtain ⟨l, p, rfl⟩ := h
 simp
theorem EndT.next {T : List Tk} (h : EndT T) {k : Nat} (hk : k < T.length) (hx : ¬ tkd T k = 0 ∨ ¬ ttx T k = noT) : k + 1 < T.length := by
 obtain ⟨l, p, rfl⟩ := h
 rw [List.length_append, List.length_singleton] at hk ⊢
 rcases Nat.lt_or_ge k l.length with h' | h'
 · omega
 · obtain rfl : k = l.length := by omega
   unfold tkd ttx at hx
   rw [List.getD_eq_getElem?_getD, List.getElem?_append_right (Nat.le_refl _)] at hx
   simp [noT] at hx

def namF (T : List Tk) : Nat → Nat → List ByteArray
 | 0, _ => []
 | f + 1, k => if tkd T k = 3 then ttx T k :: namF T f (k + 1) else []
def locF (T : List Tk) : Nat → Nat → List ByteArray
 | 0, _ => []
 | f + 1, k => if ttx T k = semT ∧ tkd T (k + 1) = 3 then ttx T (k + 1) :: locF T f (k + 2) else []
def resK (T : List Tk) : Nat := if tkd T 0 = 3 ∧ ttx T 1 = arwT then 2 else 0
def resT (T : List Tk) : ByteArray := if tkd T 0 = 3 ∧ ttx T 1 = arwT then ttx T 0 else noT
structure Hd where
 nm : ByteArray
 rs : ByteArray
 lf : ByteArray
 rt : ByteArray
 ls : List ByteArray
def Hd.all (h : Hd) : List ByteArray := (([h.rs, h.lf, h.rt] ++ h.ls).filter full) ++ [h.nm]
def namesOfF (T : List Tk) : List ByteArray := namF T T.length (resK T)
def localsOfF (T : List Tk) : List ByteArray := locF T T.length (resK T + (namesOfF T).length)
def endK (T : List Tk) : Nat := resK T + (namesOfF T).length + 2 * (localsOfF T).length
def hdOf (r : ByteArray) (ls : List ByteArray) : List ByteArray → Option Hd
 | [n] => some ⟨n, r, noT, noT, ls⟩
 | [n, a] => some ⟨n, r, noT, a, ls⟩
 | [l, n, a] => some ⟨n, r, l, a, ls⟩
 | _ => none
def pickH (o : Option Hd) : Option Hd := match o with
 | some h => if (takeF [] h.all).1 then some h else none
 | none => none
def headF (T : List Tk) : Option Hd := if ¬ tkd T (endK T) = 0 ∨ 32 < (localsOfF T).length then none else pickH (hdOf (resT T) (localsOfF T) (namesOfF T))
def headerF (ne : ByteArray → Int) (s : ByteArray) : Option Hd := if (allF ne s).2.1 = 0 then headF (allF ne s).1 else none
structure TokR (B : Nat) (w : World) (g : Nat) (T : List Tk) : Prop where
 lt : g < B
 fin : EndT T
 few : T.length ≤ 1025
 kd : ∀ k, k < T.length → w.cell? ⟨g, k * 5, none⟩ = some (.int .u8 (tkd T k))
 tx : ∀ k, k < T.length → w.cell? ⟨g, k * 5 + 1, none⟩ = some (.string (ttx T k))
theorem TokR.below {B C : Nat} {w w' : World} {g : Nat} {T : List Tk} (h : TokR B w g T) (k : Below C w w') (hC : B ≤ C) : TokR B w' g T :=
 ⟨h.lt, h.fin, h.few, fun j hj => by rw [k.cell (p := ⟨g, j * 5, none⟩) (by have := h.lt; show g < C; omega)]; exact h.kd j hj, fun j hj => by rw [k.cell (p := ⟨g, j * 5 + 1, none⟩) (by have := h.lt; show g < C; omega)]; exact h.tx j hj⟩
theorem tx_isD (x y : ByteArray) (L : List UInt8) (h : y.data.toList = L) : (x.toList == L) = decide (x = y) ∧ (x.toList = L ↔ x = y) := by
 have e : x.toList = L ↔ x = y := by
  rw [ByteArray.toList_eq, ← h]
  exact ⟨fun e => ByteArray.ext (Array.toList_inj.mp e), fun e => by rw [e]⟩
 refine ⟨?_, e⟩
 by_cases hx : x = y
 · rw [decide_eq_true hx, beq_iff_eq]; exact e.2 hx
 · rw [decide_eq_false hx, beq_eq_false_iff_ne]; exact fun h' => hx (e.1 h')
theorem TokR.two {B : Nat} {w : World} {g : Nat} {T : List Tk} (h : TokR B w g T) {k : Nat} (hk : k < T.length) (h3 : tkd T k = 3) : k + 1 < T.length := h.fin.next hk (Or.inl (by rw [h3]; decide))
set_option maxRecDepth 100000 in
set_option maxHeartbeats 8000000 in
theorem resultOf_any {B : Nat} {w : World} {g : Nat} {T : List Tk} {c : Nat} (h : TokR B w g T) (hc : T.length ≤ c) (hc2 : c ≤ 9223372036854775807) :
    Calls Tryz.prog 118 #[.slice (some ⟨g, 0, none⟩) T.length c] w fun e w' => e = .returned (.tuple #[.string (resT T), .slice (some ⟨g, resK T * 5, none⟩) (T.length - resK T) (c - resK T)]) ∧ Below w.heap.size w w' := by
 have h0 := h.fin.pos
 have q0 := h.kd 0 h0
 have q1 := h.tx 0 h0
 by_cases h3 : tkd T 0 = 3
 · have h1 := h.two h0 h3
   have q2 := h.tx 1 h1
   obtain ⟨b1, p1⟩ := tx_isD (ttx T 1) arwT [226, 134, 144] rfl
   rw [h3] at q0
   by_cases ha : ttx T 1 = arwT
   · have HR : Hid (resT T = ttx T 0) := by unfold Hid resT; rw [if_pos ⟨h3, ha⟩]
     have HK : Hid (resK T = 2) := by unfold Hid resK; rw [if_pos ⟨h3, ha⟩]
     have h2 : 2 < T.length := h.fin.next h1 (Or.inr (by rw [ha]; decide))
     rw [HR.out, HK.out]
     have p2 := p1.2 ha
     rw [decide_eq_true ha] at b1
     generalize ttx T 0 = x at *
     generalize ttx T 1 = y at *
     clear h h3 ha p1 HR HK
     go_enter Tryz.func118, Tryz.ntmps118
     go_wp2_with fail
     go_quiet (fail)
     go_wp2
     go_ret2
     exact ⟨rfl, below_drewN' (Below.refl _ _) _⟩
   · have HR : Hid (resT T = noT) := by unfold Hid resT; rw [if_neg (fun h => ha h.2)]
     have HK : Hid (resK T = 0) := by unfold Hid resK; rw [if_neg (fun h => ha h.2)]
     rw [HR.out, HK.out]
     have p2 : ¬ (ttx T 1).toList = [226, 134, 144] := fun h => ha (p1.1 h)
     rw [decide_eq_false ha] at b1
     generalize ttx T 0 = x at *
     generalize ttx T 1 = y at *
     clear h h3 ha p1 HR HK
     go_enter Tryz.func118, Tryz.ntmps118
     go_wp2
     go_ret2
     exact ⟨by simp [noT], Below.refl _ _⟩
 · have HR : Hid (resT T = noT) := by unfold Hid resT; rw [if_neg (fun h => h3 h.1)]
   have HK : Hid (resK T = 0) := by unfold Hid resK; rw [if_neg (fun h => h3 h.1)]
   rw [HR.out, HK.out]
   have e3 : (tkd T 0 == 3) = false := by rw [beq_eq_false_iff_ne]; exact h3
   generalize tkd T 0 = x at *
   clear h h3 HR HK q1
   go_enter Tryz.func118, Tryz.ntmps118
   go_wp2
   go_ret2
   exact ⟨by simp [noT], Below.refl _ _⟩
theorem namF_stop {T : List Tk} {k : Nat} : ∀ f, ¬ tkd T k = 3 → namF T f k = []
 | 0, _ => rfl
 | f + 1, h => by rw [namF, if_neg h]
theorem namF_fuel {T : List Tk} (hE : EndT T) : ∀ (f g k : Nat), k < T.length → T.length ≤ k + f → T.length ≤ k + g → namF T f k = namF T g k
 | 0, g, k, h1, h2, h3 => by omega
 | f + 1, 0, k, h1, h2, h3 => by omega
 | f + 1, g + 1, k, h1, h2, h3 => by
  rw [namF, namF]
  by_cases h : tkd T k = 3
  · rw [if_pos h, if_pos h]
    have := hE.next h1 (Or.inl (by rw [h]; decide))
    rw [namF_fuel hE f g (k + 1) this (by omega) (by omega)]
  · rw [if_neg h, if_neg h]
theorem namF_step {T : List Tk} (hE : EndT T) {k : Nat} (hk : k < T.length) (h : tkd T k = 3) : namF T T.length k = ttx T k :: namF T T.length (k + 1) := by
 have h1 := hE.next hk (Or.inl (by rw [h]; decide))
 rw [namF_fuel hE T.length (T.length + 1) k hk (by omega) (by omega), namF, if_pos h]
theorem locF_fuel {T : List Tk} (hE : EndT T) : ∀ (f g k : Nat), k < T.length → T.length ≤ k + f → T.length ≤ k + g → locF T f k = locF T g k
 | 0, g, k, h1, h2, h3 => by omega
 | f + 1, 0, k, h1, h2, h3 => by omega
 | f + 1, g + 1, k, h1, h2, h3 => by
  rw [locF, locF]
  by_cases h : ttx T k = semT ∧ tkd T (k + 1) = 3
  · rw [if_pos h, if_pos h]
    have h4 := hE.next h1 (Or.inr (by rw [h.1]; decide))
    have h5 := hE.next h4 (Or.inl (by rw [h.2]; decide))
    rw [locF_fuel hE f g (k + 2) h5 (by omega) (by omega)]
  · rw [if_neg h, if_neg h]
theorem locF_step {T : List Tk} (hE : EndT T) {k : Nat} (hk : k < T.length) (h : ttx T k = semT ∧ tkd T (k + 1) = 3) : locF T T.length k = ttx T (k + 1) :: locF T T.length (k + 2) := by
 rw [locF_fuel hE T.length (T.length + 1) k hk (by omega) (by omega), locF, if_pos h]
theorem locF_stop {T : List Tk} {k : Nat} : ∀ f, ¬ (ttx T k = semT ∧ tkd T (k + 1) = 3) → locF T f k = []
 | 0, _ => rfl
 | f + 1, h => by rw [locF, if_neg h]
set_option maxRecDepth 100000 in
set_option maxHeartbeats 8000000 in
theorem namesOf_any {B : Nat} {w : World} {g : Nat} {T : List Tk} {c r : Nat} (h : TokR B w g T) (hB : B ≤ w.heap.size) (hr : r < T.length) (hc : T.length ≤ c) (hc2 : c ≤ 9223372036854775807) {ns : List ByteArray} (hns : Hid (ns = namF T T.length r)) :
    Calls Tryz.prog 119 #[.slice (some ⟨g, r * 5, none⟩) (T.length - r) (c - r)] w fun e w' => ∃ a' c', e = .returned (.tuple #[.slice a' ns.length c', .slice (some ⟨g, (r + ns.length) * 5, none⟩) (T.length - (r + ns.length)) (c - (r + ns.length))]) ∧ OwS w.heap.size w' (.slice a' ns.length c') ns ∧ Below w.heap.size w w' ∧ r + ns.length < T.length := by
 have HT : Hid (TokR B w g T) := h
 have hf := h.few
 have hgw : g < w.heap.size := by have := h.lt; omega
 clear h
 go_enter Tryz.func119, Tryz.ntmps119
 go_wp2
 go_loopw [4, 0] (fun ov lv wr => ∃ (i : Nat) (os : List ByteArray) (ao : Option Addr) (co o n m : Nat), ov = .slice ao os.length co ∧ Hid (os.length = i) ∧ lv = .slice (some ⟨g, o, none⟩) n m ∧ Hid (o = (r + i) * 5 ∧ n + (r + i) = T.length ∧ m + (r + i) = c) ∧ 0 < n ∧ n ≤ m ∧ m ≤ 9223372036854775807 ∧ Hid (ns = os ++ namF T T.length (r + i)) ∧ OwS w.heap.size wr (.slice ao os.length co) os ∧ Below w.heap.size w wr) (fun _ lv _ => match lv with | .slice _ n _ => n | _ => 0)
 case atStart => exact ⟨0, [], none, 0, r * 5, T.length - r, c - r, rfl, rfl, rfl, (by unfold Hid; omega), by omega, by omega, by omega, hns, World.ownsRow_nil _ _ _ _, Below.refl _ _⟩
 case round =>
  obtain ⟨i, os, ao, co, o, n, m, rfl, HI, rfl, HP, hn, hnm, hm, HN, hO, hb⟩ := hrel
  have hs := hb.size
  have hil : r + i < T.length := by have := HP.out; omega
  have HTr := HT.out.below hb hB
  have q0 := HTr.kd (r + i) hil
  have q1 := HTr.tx (r + i) hil
  rw [← HP.out.1] at q0 q1
  have hli : os.length ≤ 1025 := by have := HI.out; omega
  by_cases h3 : tkd T (r + i) = 3
  · have hn2 : 1 < n := by
     have := HTr.two hil h3
     have := HP.out
     omega
    have HN2 : Hid (ns = (os ++ [ttx T (r + i)]) ++ namF T T.length (r + (i + 1))) := by
     unfold Hid
     rw [HN.out, namF_step HTr.fin hil h3, List.append_assoc]
     rfl
    have HP2 : Hid (o + 5 = (r + (i + 1)) * 5 ∧ n - 1 + (r + (i + 1)) = T.length ∧ m - 1 + (r + (i + 1)) = c) := by
     have := HP.out
     unfold Hid
     omega
    have i1 : (1 : Int) ≤ (n : Int) := by omega
    have i2 : ¬ m = 1 := by omega
    rw [h3] at q0
    generalize ttx T (r + i) = x at *
    have hN1 : RdS (wr.heap.size + 1) (wr.alloc (.cells #[.string x] 9)).drew (.slice (some ⟨wr.heap.size, 0, none⟩) 1 1) [x] := rdS_new1 wr x
    have hN2 : RdS (wr.heap.size + 1) (wr.alloc (.cells #[.string x] 9)) (.slice (some ⟨wr.heap.size, 0, none⟩) 1 1) [x] := rdS_new1 wr x
    have hN3 : RdS (wr.heap.size + 1) (wr.drew.alloc (.cells #[.string x] 9)) (.slice (some ⟨wr.heap.size, 0, none⟩) 1 1) [x] := rdS_new1 wr.drew x
    have hO1 : OwS w.heap.size (wr.alloc (.cells #[.string x] 9)).drew (.slice ao os.length co) os := hO.alloc _
    have hO2' : OwS w.heap.size (wr.alloc (.cells #[.string x] 9)) (.slice ao os.length co) os := hO.alloc _
    have hO3 : OwS w.heap.size (wr.drew.alloc (.cells #[.string x] 9)) (.slice ao os.length co) os := World.ownsRow.alloc (w := wr.drew) hO _
    have hb1 : Below w.heap.size w (wr.alloc (.cells #[.string x] 9)).drew := by
     have := hb.alloc hs (.cells #[.string x] 9)
     exact ⟨this.os, this.tape, this.output, this.size, this.block⟩
    have hb2 : Below w.heap.size w (wr.alloc (.cells #[.string x] 9)) := hb.alloc hs _
    have hb3 : Below w.heap.size w (wr.drew.alloc (.cells #[.string x] 9)) := by
     have := hb.alloc hs (.cells #[.string x] 9)
     exact ⟨this.os, this.tape, this.output, this.size, this.block⟩
    have hgl : g < wr.heap.size := by have := HTr.lt; omega
    have hcx : ∀ {W}, Below wr.heap.size wr W → W.cell? ⟨g, o + 1, none⟩ = some (.string x) := fun k => (k.cell (p := ⟨g, o + 1, none⟩) hgl).trans q1
    clear HT HTr HN HP h3
    go_wp2_with fail
    go_region_held3 (fun w' => w'.cell? ⟨g, o + 1, none⟩ = some (.string x)) (first | (go_keep; done) | exact tw)
     (first | (refine step_append_strs (base := w.heap.size) (xs := os) (ys := [x]) (by rfl) _ _ (by rfl) (by rfl) (by rfl) (by first | exact hO2' | exact hO1 | exact hO3) (by first | exact hN2 | exact hN1 | exact hN3) (Nat.zero_lt_succ _) (by show (_ + 1) * 16 ≤ _; omega) (by simp; omega) ?_; intro v' w' hO2 hgr; have tb : Below w.heap.size w w' := (by first | exact hb2.grown hgr hb2.size (fun k hk => (hO.lt k hk).1) | exact hb1.grown hgr hb1.size (fun k hk => (hO.lt k hk).1) | exact hb3.grown hgr hb3.size (fun k hk => (hO.lt k hk).1)); have tw : w'.cell? ⟨g, o + 1, none⟩ = some (.string x) := (tb.cell (p := ⟨g, o + 1, none⟩) hgw).trans ((hb.cell (p := ⟨g, o + 1, none⟩) hgw).symm.trans q1); clear hgr))
    have hO5 : OwS w.heap.size w' v' (os ++ [x]) := hO2
    obtain ⟨a2, c2, rfl⟩ := row_form2S hO5
    have HI2 : Hid ((os ++ [x]).length = i + 1) := by
     have := HI.out
     unfold Hid
     simp; omega
    clear hO2 hO1 hO2' hO3 hN1 hN2 hN3 hb1 hb2 hb3 HI
    go_wp2
    go_roundw
    case rel => exact ⟨i + 1, os ++ [x], a2, c2, o + 5, n - 1, m - 1, rfl, HI2, rfl, HP2, by omega, by omega, by omega, HN2, hO5, tb⟩
    case measure => show n - 1 < n; omega
  · have HE : Hid (ns = os) := by
     unfold Hid
     rw [HN.out, namF_stop _ h3, List.append_nil]
    have HI2 : Hid (r + os.length = r + i) := by unfold Hid; rw [HI.out]
    have e3 : (tkd T (r + i) == 3) = false := by rw [beq_eq_false_iff_ne]; exact h3
    generalize tkd T (r + i) = x at *
    clear HT HTr HN h3 q1
    go_wp2
    go_ret2
    obtain ⟨z1, z2, z3⟩ := HP.out
    refine ⟨ao, co, ?_, by rw [HE.out]; exact hO, hb, by rw [HE.out, HI2.out]; exact hil⟩
    rw [HE.out, HI2.out, z1, show T.length - (r + i) = n by omega, show c - (r + i) = m by omega]
    rfl
set_option maxRecDepth 100000 in
set_option maxHeartbeats 8000000 in
theorem localsOf_any {B : Nat} {w : World} {g : Nat} {T : List Tk} {c r : Nat} (h : TokR B w g T) (hB : B ≤ w.heap.size) (hr : r < T.length) (hc : T.length ≤ c) (hc2 : c ≤ 9223372036854775807) {ns : List ByteArray} (hns : Hid (ns = locF T T.length r)) :
    Calls Tryz.prog 120 #[.slice (some ⟨g, r * 5, none⟩) (T.length - r) (c - r)] w fun e w' => ∃ a' c', e = .returned (.tuple #[.slice a' ns.length c', .slice (some ⟨g, (r + 2 * ns.length) * 5, none⟩) (T.length - (r + 2 * ns.length)) (c - (r + 2 * ns.length))]) ∧ OwS w.heap.size w' (.slice a' ns.length c') ns ∧ Below w.heap.size w w' ∧ r + 2 * ns.length < T.length := by
 have HT : Hid (TokR B w g T) := h
 have hf := h.few
 have hgw : g < w.heap.size := by have := h.lt; omega
 clear h
 go_enter Tryz.func120, Tryz.ntmps120
 go_wp2
 go_loopw [4, 0] (fun ov lv wr => ∃ (i : Nat) (os : List ByteArray) (ao : Option Addr) (co o n m : Nat), ov = .slice ao os.length co ∧ Hid (os.length = i) ∧ lv = .slice (some ⟨g, o, none⟩) n m ∧ Hid (o = (r + 2 * i) * 5 ∧ n + (r + 2 * i) = T.length ∧ m + (r + 2 * i) = c) ∧ 0 < n ∧ n ≤ m ∧ m ≤ 9223372036854775807 ∧ Hid (ns = os ++ locF T T.length (r + 2 * i)) ∧ OwS w.heap.size wr (.slice ao os.length co) os ∧ Below w.heap.size w wr) (fun _ lv _ => match lv with | .slice _ n _ => n | _ => 0)
 case atStart => exact ⟨0, [], none, 0, r * 5, T.length - r, c - r, rfl, rfl, rfl, (by unfold Hid; omega), by omega, by omega, by omega, hns, World.ownsRow_nil _ _ _ _, Below.refl _ _⟩
 case round =>
  obtain ⟨i, os, ao, co, o, n, m, rfl, HI, rfl, HP, hn, hnm, hm, HN, hO, hb⟩ := hrel
  have hs := hb.size
  have hil : r + 2 * i < T.length := by have := HP.out; omega
  have HTr := HT.out.below hb hB
  have q0 := HTr.kd (r + 2 * i) hil
  have q1 := HTr.tx (r + 2 * i) hil
  rw [← HP.out.1] at q0 q1
  have hli : os.length ≤ 1025 := by have := HI.out; omega
  obtain ⟨bs, ps⟩ := tx_isD (ttx T (r + 2 * i)) semT [59] rfl
  by_cases hse : ttx T (r + 2 * i) = semT
  case neg =>
   have HE : Hid (ns = os) := by
    unfold Hid
    rw [HN.out, locF_stop _ (fun h => hse h.1), List.append_nil]
   have HI2 : Hid (r + 2 * os.length = r + 2 * i) := by unfold Hid; rw [HI.out]
   have p2 : ¬ (ttx T (r + 2 * i)).toList = [59] := fun h => hse (ps.1 h)
   rw [decide_eq_false hse] at bs
   generalize ttx T (r + 2 * i) = x at *
   clear HT HTr HN hse q0 ps
   go_wp2
   go_ret2
   obtain ⟨z1, z2, z3⟩ := HP.out
   refine ⟨ao, co, ?_, by rw [HE.out]; exact hO, hb, by rw [HE.out, HI2.out]; exact hil⟩
   rw [HE.out, HI2.out, z1, show T.length - (r + 2 * i) = n by omega, show c - (r + 2 * i) = m by omega]
   rfl
  have hil2 : r + 2 * i + 1 < T.length := HTr.fin.next hil (Or.inr (by rw [hse]; decide))
  have q2 := HTr.kd (r + 2 * i + 1) hil2
  have q3 := HTr.tx (r + 2 * i + 1) hil2
  rw [show (r + 2 * i + 1) * 5 = o + 5 by have := HP.out; omega] at q2 q3
  have n1 : 1 < n := by have := HP.out; omega
  have p2 := ps.2 hse
  by_cases h3 : tkd T (r + 2 * i + 1) = 3
  · have hn2 : 2 < n := by
     have := HTr.two hil2 h3
     have := HP.out
     omega
    have HN2 : Hid (ns = (os ++ [ttx T (r + 2 * i + 1)]) ++ locF T T.length (r + 2 * (i + 1))) := by
     unfold Hid
     rw [HN.out, locF_step HTr.fin hil ⟨hse, h3⟩, List.append_assoc]
     rfl
    have HP2 : Hid (o + 10 = (r + 2 * (i + 1)) * 5 ∧ n - 2 + (r + 2 * (i + 1)) = T.length ∧ m - 2 + (r + 2 * (i + 1)) = c) := by
     have := HP.out
     unfold Hid
     omega
    have i0 : (1 : Int) < (n : Int) := by omega
    have i1 : (2 : Int) ≤ (n : Int) := by omega
    have i2 : ¬ m = 2 := by omega
    rw [h3] at q2
    rw [decide_eq_true hse] at bs
    generalize ttx T (r + 2 * i) = y at *
    generalize ttx T (r + 2 * i + 1) = x at *
    have hN1 : RdS (wr.heap.size + 1) (wr.alloc (.cells #[.string x] 9)).drew (.slice (some ⟨wr.heap.size, 0, none⟩) 1 1) [x] := rdS_new1 wr x
    have hN2 : RdS (wr.heap.size + 1) (wr.alloc (.cells #[.string x] 9)) (.slice (some ⟨wr.heap.size, 0, none⟩) 1 1) [x] := rdS_new1 wr x
    have hN3 : RdS (wr.heap.size + 1) (wr.drew.alloc (.cells #[.string x] 9)) (.slice (some ⟨wr.heap.size, 0, none⟩) 1 1) [x] := rdS_new1 wr.drew x
    have hO1 : OwS w.heap.size (wr.alloc (.cells #[.string x] 9)).drew (.slice ao os.length co) os := hO.alloc _
    have hO2' : OwS w.heap.size (wr.alloc (.cells #[.string x] 9)) (.slice ao os.length co) os := hO.alloc _
    have hO3 : OwS w.heap.size (wr.drew.alloc (.cells #[.string x] 9)) (.slice ao os.length co) os := World.ownsRow.alloc (w := wr.drew) hO _
    have hb1 : Below w.heap.size w (wr.alloc (.cells #[.string x] 9)).drew := by
     have := hb.alloc hs (.cells #[.string x] 9)
     exact ⟨this.os, this.tape, this.output, this.size, this.block⟩
    have hb2 : Below w.heap.size w (wr.alloc (.cells #[.string x] 9)) := hb.alloc hs _
    have hb3 : Below w.heap.size w (wr.drew.alloc (.cells #[.string x] 9)) := by
     have := hb.alloc hs (.cells #[.string x] 9)
     exact ⟨this.os, this.tape, this.output, this.size, this.block⟩
    have hgl : g < wr.heap.size := by have := HTr.lt; omega
    have hcx : ∀ {W}, Below wr.heap.size wr W → W.cell? ⟨g, o + 5 + 1, none⟩ = some (.string x) := fun k => (k.cell (p := ⟨g, o + 5 + 1, none⟩) hgl).trans q3
    clear HT HTr HN HP h3 hse ps q0
    go_wp2_with fail
    go_region_held3 (fun w' => w'.cell? ⟨g, o + 5 + 1, none⟩ = some (.string x)) (first | (go_keep; done) | exact tw)
     (first | (refine step_append_strs (base := w.heap.size) (xs := os) (ys := [x]) (by rfl) _ _ (by rfl) (by rfl) (by rfl) (by first | exact hO2' | exact hO1 | exact hO3) (by first | exact hN2 | exact hN1 | exact hN3) (Nat.zero_lt_succ _) (by show (_ + 1) * 16 ≤ _; omega) (by simp; omega) ?_; intro v' w' hO2 hgr; have tb : Below w.heap.size w w' := (by first | exact hb2.grown hgr hb2.size (fun k hk => (hO.lt k hk).1) | exact hb1.grown hgr hb1.size (fun k hk => (hO.lt k hk).1) | exact hb3.grown hgr hb3.size (fun k hk => (hO.lt k hk).1)); have tw : w'.cell? ⟨g, o + 5 + 1, none⟩ = some (.string x) := (tb.cell (p := ⟨g, o + 5 + 1, none⟩) hgw).trans ((hb.cell (p := ⟨g, o + 5 + 1, none⟩) hgw).symm.trans q3); clear hgr))
    have hO5 : OwS w.heap.size w' v' (os ++ [x]) := hO2
    obtain ⟨a2, c2, rfl⟩ := row_form2S hO5
    have HI2 : Hid ((os ++ [x]).length = i + 1) := by
     have := HI.out
     unfold Hid
     simp; omega
    clear hO2 hO1 hO2' hO3 hN1 hN2 hN3 hb1 hb2 hb3 HI
    go_wp2
    go_roundw
    case rel => exact ⟨i + 1, os ++ [x], a2, c2, o + 10, n - 2, m - 2, rfl, HI2, rfl, HP2, by omega, by omega, by omega, HN2, hO5, tb⟩
    case measure => show n - 2 < n; omega
  · have HE : Hid (ns = os) := by
     unfold Hid
     rw [HN.out, locF_stop _ (fun h => h3 h.2), List.append_nil]
    have HI2 : Hid (r + 2 * os.length = r + 2 * i) := by unfold Hid; rw [HI.out]
    have e3 : (tkd T (r + 2 * i + 1) == 3) = false := by rw [beq_eq_false_iff_ne]; exact h3
    rw [decide_eq_true hse] at bs
    generalize ttx T (r + 2 * i) = y at *
    generalize tkd T (r + 2 * i + 1) = x at *
    clear HT HTr HN h3 hse ps q0 q3
    go_wp2
    go_ret2
    obtain ⟨z1, z2, z3⟩ := HP.out
    refine ⟨ao, co, ?_, by rw [HE.out]; exact hO, hb, by rw [HE.out, HI2.out]; exact hil⟩
    rw [HE.out, HI2.out, z1, show T.length - (r + 2 * i) = n by omega, show c - (r + 2 * i) = m by omega]
    rfl
theorem row_monoS {W : World} {base base' e size n : Nat} {v : Value} {xs : List Value} (h : W.ownsRow base e size v n xs) (hb : base' ≤ base) : W.ownsRow base' e size v n xs := by
 obtain ⟨h1, h | ⟨g, cap, cur, hv, hg, r⟩⟩ := h
 · exact ⟨h1, Or.inl h⟩
 · exact ⟨h1, Or.inr ⟨g, cap, cur, hv, Nat.le_trans hb hg, r⟩⟩
abbrev fnV (nm rs lf rt : ByteArray) (ls lb at' li : Value) (br : Bool) : Array Value := #[.string nm, .string rs, .string lf, .string rt, ls, lb, at', li, .bool br]
theorem rdS_new3 (w : World) (x y z : ByteArray) : RdS (w.heap.size + 1) (w.alloc (.cells #[.string x, .string y, .string z] 9)) (.slice (some ⟨w.heap.size, 0, none⟩) 3 3) [x, y, z] := by
 refine ⟨some ⟨w.heap.size, 0, none⟩, 3, rfl, by simp, by omega, (fun e => by cases e), Or.inr ⟨w.heap.size, 0, rfl, by omega, fun j hj => ?_⟩⟩
 have hb := boxA_new w #[.string x, .string y, .string z] 9
 match j, hj with
 | 0, _ => exact hb.cell 0 rfl
 | 1, _ => exact hb.cell 1 rfl
 | 2, _ => exact hb.cell 2 rfl
set_option maxRecDepth 100000 in
set_option maxHeartbeats 8000000 in
theorem locals_any {B : Nat} {w : World} {nm rs lf rt : ByteArray} {a1 a2 : Option Addr} {c1 c2 n3 c3 n4 c4 : Nat} {a3 a4 : Option Addr} {ls lb : List ByteArray} (h1 : RdS B w (.slice a1 ls.length c1) ls) (h2 : RdS B w (.slice a2 lb.length c2) lb) (hB : B ≤ w.heap.size) (hl : ls.length + lb.length ≤ 100000) {fs : List ByteArray} (hfs : Hid (fs = ([rs, lf, rt] ++ ls ++ lb).filter full)) :
    Calls Tryz.prog 27 #[.agg (fnV nm rs lf rt (.slice a1 ls.length c1) (.slice a2 lb.length c2) (.slice a3 n3 c3) (.slice a4 n4 c4) false)] w fun e w' => ∃ a c, e = .returned (.slice a fs.length c) ∧ OwS w.heap.size w' (.slice a fs.length c) fs ∧ Below w.heap.size w w' := by
 have HL : Hid (ls.length + lb.length ≤ 100000) := hl
 obtain ⟨ss, hSS⟩ : ∃ ss, [rs, lf, rt] ++ ls ++ lb = ss := ⟨_, rfl⟩
 have HSE : Hid ([rs, lf, rt] ++ ls ++ lb = ss) := hSS
 have HFS : Hid (ss.filter full = fs) := by
  unfold Hid
  rw [← hSS, hfs.out]
 clear hSS hfs
 have k0 := below_alloc w (.cells (fnV nm rs lf rt (.slice a1 ls.length c1) (.slice a2 lb.length c2) (.slice a3 n3 c3) (.slice a4 n4 c4) false) 36)
 have F0 := boxA_new w (fnV nm rs lf rt (.slice a1 ls.length c1) (.slice a2 lb.length c2) (.slice a3 n3 c3) (.slice a4 n4 c4) false) 36
 generalize hW0 : w.alloc (.cells (fnV nm rs lf rt (.slice a1 ls.length c1) (.slice a2 lb.length c2) (.slice a3 n3 c3) (.slice a4 n4 c4) false) 36) = w0 at *
 have s0 : w0.heap.size = w.heap.size + 1 := by rw [← hW0]; simp
 have k1 := below_alloc w0 (.cells #[.string rs, .string lf, .string rt] 9)
 have H3 := rdS_new3 w0 rs lf rt
 generalize hW1 : w0.alloc (.cells #[.string rs, .string lf, .string rt] 9) = w1 at *
 have s1 : w1.heap.size = w.heap.size + 1 + 1 := by rw [← hW1, World.size_alloc, s0]
 rw [s0] at H3
 have k2 := below_alloc w1 (.cells #[.slice (some ⟨w.heap.size + 1, 0, none⟩) 3 3, .slice a1 ls.length c1, .slice a2 lb.length c2] 25)
 have F2 := boxA_new w1 #[.slice (some ⟨w.heap.size + 1, 0, none⟩) 3 3, .slice a1 ls.length c1, .slice a2 lb.length c2] 25
 generalize hW2 : w1.alloc (.cells #[.slice (some ⟨w.heap.size + 1, 0, none⟩) 3 3, .slice a1 ls.length c1, .slice a2 lb.length c2] 25) = w2 at *
 have s2 : w2.heap.size = w.heap.size + 1 + 1 + 1 := by rw [← hW2, World.size_alloc, s1]
 rw [s1] at F2
 have g2 : Below w.heap.size w w2 := (k0.trans (k1.mono (by omega))).trans (k2.mono (by omega))
 have HSS : Hid (RdSS w1.heap.size w2 (w.heap.size + 1 + 1) 0 [.slice (some ⟨w.heap.size + 1, 0, none⟩) 3 3, .slice a1 ls.length c1, .slice a2 lb.length c2] [[rs, lf, rt], ls, lb]) := by
  refine ⟨rfl, fun j hj => ?_⟩
  match j, hj with
  | 0, _ => exact ⟨F2.cell 0 rfl, (H3.mono (by omega)).below k2 (Nat.le_refl _)⟩
  | 1, _ => exact ⟨F2.cell 1 rfl, (h1.below g2 hB).mono (by omega)⟩
  | 2, _ => exact ⟨F2.cell 2 rfl, (h2.below g2 hB).mono (by omega)⟩
 have c0 := F0.cell 8 rfl
 have c1' := F0.cell 1 rfl
 have c2' := F0.cell 2 rfl
 have c3' := F0.cell 3 rfl
 have F1 := F0.below k1 (by omega)
 have d4 := F1.cell 4 rfl
 have d5 := F1.cell 5 rfl
 clear h1 h2 H3 F2 k0 k1 k2 hl
 go_enter Tryz.func27, Tryz.ntmps27
 go_wp2_with fail
 refine (concat_strs HSS.out (by omega) (by omega) (by simp) (by have := HL.out; simp; omega) (c := 3) (by simp) (by omega)).mono ?_
 rintro e w3 ⟨v3, rfl, hO, k3⟩
 have e3 : ([[rs, lf, rt], ls, lb] : List (List ByteArray)).flatten = [rs, lf, rt] ++ ls ++ lb := by simp
 rw [e3, HSE.out] at hO
 have hl3 : ss.length ≤ 1000000 := by have := HL.out; rw [← HSE.out]; simp; omega
 clear HSS HL e3 HSE
 obtain ⟨a, c, rfl⟩ := row_form2S hO
 have g3 := g2.trans (k3.mono (by omega))
 clear c0 c1' c2' c3' d4 d5 F0 F1 hW0 hW1 hW2
 go_wp2_with fail
 refine (delete_strs hO hl3).mono ?_
 rintro e w4 ⟨v4, rfl, hO4, hgr⟩
 rw [HFS.out] at hO4
 have k4 : Below w.heap.size w w4 := g3.grown hgr (by have := k3.size; omega) (fun k hk => by have := (hO.lt k hk).1; omega)
 obtain ⟨a', c', rfl⟩ := row_form2S hO4
 go_wp2
 go_ret
 exact ⟨a', c', rfl, row_monoS hO4 g2.size, k4⟩
theorem fn_store5 {w : World} {R : Nat} {nm rs lf rt : ByteArray} {ls lb at' li : Value} {br : Bool} (h : BoxA w R 36 (fnV nm rs lf rt ls lb at' li br)) (v : Value) : BoxA (w.setCell ⟨R, 5, none⟩ v) R 36 (fnV nm rs lf rt ls v at' li br) := boxA_put h 5 v
set_option maxRecDepth 100000 in
set_option maxHeartbeats 8000000 in
theorem headerNames_any {B : Nat} {w : World} {nm rs lf rt : ByteArray} {a1 a2 : Option Addr} {c1 n2 c2 n3 c3 n4 c4 : Nat} {a3 a4 : Option Addr} {ls : List ByteArray} (h1 : RdS B w (.slice a1 ls.length c1) ls) (hB : B ≤ w.heap.size) (hl : ls.length ≤ 10000) :
    Calls Tryz.prog 53 #[.agg (fnV nm rs lf rt (.slice a1 ls.length c1) (.slice a2 n2 c2) (.slice a3 n3 c3) (.slice a4 n4 c4) false)] w fun e w' => ∃ a c, e = .returned (.slice a (Hd.mk nm rs lf rt ls).all.length c) ∧ OwS w.heap.size w' (.slice a (Hd.mk nm rs lf rt ls).all.length c) (Hd.mk nm rs lf rt ls).all ∧ Below w.heap.size w w' := by
 have k0 := below_alloc w (.cells (fnV nm rs lf rt (.slice a1 ls.length c1) (.slice a2 n2 c2) (.slice a3 n3 c3) (.slice a4 n4 c4) false) 36)
 have F0 := boxA_new w (fnV nm rs lf rt (.slice a1 ls.length c1) (.slice a2 n2 c2) (.slice a3 n3 c3) (.slice a4 n4 c4) false) 36
 generalize hW0 : w.alloc (.cells (fnV nm rs lf rt (.slice a1 ls.length c1) (.slice a2 n2 c2) (.slice a3 n3 c3) (.slice a4 n4 c4) false) 36) = w0 at *
 have s0 : w0.heap.size = w.heap.size + 1 := by rw [← hW0]; simp
 have z5 := F0.cell 5 rfl
 have y5 := F0.frozen 5
 have F1 := fn_store5 F0 (.slice none 0 0)
 have k1 : Below w.heap.size w (w0.setCell ⟨w.heap.size, 5, none⟩ (.slice none 0 0)) := Below.setCell k0 (Nat.le_refl _) _
 generalize hW1 : w0.setCell ⟨w.heap.size, 5, none⟩ (.slice none 0 0) = w1 at *
 have s1 : w1.heap.size = w.heap.size + 1 := by rw [← hW1, ← s0]; simp [World.setCell]
 have hcells : ∀ {w' : World}, Below w1.heap.size w1 w' → w'.cell? ⟨w.heap.size, 0, none⟩ = some (.string nm) ∧ w'.cell? ⟨w.heap.size, 1, none⟩ = some (.string rs) ∧ w'.cell? ⟨w.heap.size, 2, none⟩ = some (.string lf) ∧ w'.cell? ⟨w.heap.size, 3, none⟩ = some (.string rt) ∧ w'.cell? ⟨w.heap.size, 4, none⟩ = some (.slice a1 ls.length c1) ∧ w'.cell? ⟨w.heap.size, 5, none⟩ = some (.slice none 0 0) ∧ w'.cell? ⟨w.heap.size, 6, none⟩ = some (.slice a3 n3 c3) ∧ w'.cell? ⟨w.heap.size, 7, none⟩ = some (.slice a4 n4 c4) ∧ w'.cell? ⟨w.heap.size, 8, none⟩ = some (.bool false) := fun hb => by
  have F2 := F1.below hb (by omega)
  exact ⟨F2.cell 0 rfl, F2.cell 1 rfl, F2.cell 2 rfl, F2.cell 3 rfl, F2.cell 4 rfl, F2.cell 5 rfl, F2.cell 6 rfl, F2.cell 7 rfl, F2.cell 8 rfl⟩
 have HRd : ∀ {W : World}, Below w1.heap.size w1 W → RdS B W (.slice a1 ls.length c1) ls := fun hb => (h1.below k1 hB).below hb (by omega)
 have HRn : ∀ {W : World}, Below w1.heap.size w1 W → RdS B W (.slice none (([] : List ByteArray)).length 0) [] := fun _ => RdS.nil _ _
 have d1 : Below w1.heap.size w1 w1.drew := ⟨rfl, rfl, rfl, Nat.le_refl _, fun _ _ => rfl⟩
 have d2 : ∀ O, Below w1.heap.size w1 (w1.alloc O).drew := fun O => ⟨rfl, rfl, rfl, by simp, fun k hk => (below_alloc w1 O).block k hk⟩
 obtain ⟨t0, t1, t2, t3, t4, t5, t6, t7, t8⟩ := hcells (Below.refl _ _)
 obtain ⟨fs, hfs⟩ : ∃ fs, fs = ([rs, lf, rt] ++ ls ++ []).filter full := ⟨_, rfl⟩
 have HFS : Hid (fs = ([rs, lf, rt] ++ ls ++ []).filter full) := hfs
 have HA : Hid (fs ++ [nm] = (Hd.mk nm rs lf rt ls).all) := by
  unfold Hid Hd.all
  rw [hfs, List.append_nil]
 have HLn : Hid (fs.length ≤ 10003) := by
  have := List.length_filter_le full ([rs, lf, rt] ++ ls ++ [])
  unfold Hid
  rw [hfs]
  simp at this ⊢
  omega
 obtain ⟨al, hal⟩ : ∃ al, al = (Hd.mk nm rs lf rt ls).all := ⟨_, rfl⟩
 rw [← hal] at HA ⊢
 clear hfs hal
 have hN1 : RdS (w1.heap.size + 1) (w1.alloc (.cells #[.string nm] 9)).drew (.slice (some ⟨w1.heap.size, 0, none⟩) 1 1) [nm] := rdS_new1 w1 nm
 rw [s1] at hN1
 clear F0 h1
 go_enter Tryz.func53, Tryz.ntmps53
 go_wp2_with fail
 go_region_held3 (fun w' => w'.cell? ⟨w.heap.size, 0, none⟩ = some (.string nm) ∧ w'.cell? ⟨w.heap.size, 1, none⟩ = some (.string rs) ∧ w'.cell? ⟨w.heap.size, 2, none⟩ = some (.string lf) ∧ w'.cell? ⟨w.heap.size, 3, none⟩ = some (.string rt) ∧ w'.cell? ⟨w.heap.size, 4, none⟩ = some (.slice a1 ls.length c1) ∧ w'.cell? ⟨w.heap.size, 5, none⟩ = some (.slice none 0 0) ∧ w'.cell? ⟨w.heap.size, 6, none⟩ = some (.slice a3 n3 c3) ∧ w'.cell? ⟨w.heap.size, 7, none⟩ = some (.slice a4 n4 c4) ∧ w'.cell? ⟨w.heap.size, 8, none⟩ = some (.bool false))
  (first | (go_keep; done) | exact tw | exact tw2)
  (first
   | (go_at_call 27; refine (locals_any (lb := []) (HRd (by first | exact d1 | exact d2 _)) (HRn (by first | exact d1 | exact d2 _)) (by simp; omega) (by simp; omega) HFS).mono ?_; rintro e wa ⟨a, c, rfl, hO, ka⟩; have ta : Below w1.heap.size w1 wa := (by first | exact d1.trans (ka.mono (by simp)) | exact (d2 _).trans (ka.mono (by simp))); have tw := hcells ta)
   | (have j := tw; refine step_append_strs (base := w1.heap.size) (xs := fs) (ys := [nm]) (by rfl) _ _ (by rfl) (by rfl) (by rfl) (row_monoS (by first | exact hO | exact hO.alloc _) (by simp)) (by first | exact hN1.below ka (by simp; omega) | exact rdS_new1 wa nm) (Nat.zero_lt_succ _) (by have := HLn.out; show (_ + 1) * 16 ≤ _; omega) (by have := ta.size; first | omega | (simp; omega)) ?_; intro v' w' hO2 hgr; have tb : Below w1.heap.size w1 w' := (by first | exact ta.grown hgr ta.size (fun k hk => by have := (hO.lt k hk).1; simp at this; omega) | exact (ta.alloc ta.size _).grown hgr (by have := ta.size; first | omega | (simp; omega)) (fun k hk => by have := (hO.lt k hk).1; simp at this; omega)); have tw2 := hcells tb; clear hgr))
 all_goals
  have HO2 : Hid (OwS w1.heap.size w' v' (fs ++ [nm])) := hO2
  rw [HA.out] at HO2
  obtain ⟨a', c', rfl⟩ := row_form2S HO2.out
  have g2 : Below w.heap.size w w' := k1.trans (tb.mono (by omega))
  have gs := k1.size
  clear hO2 hO tw tw2 HA
  go_wp2
  go_ret
  exact ⟨a', c', rfl, row_monoS HO2.out gs, g2⟩
theorem zero_no (w : World) : (zeroValue 146).run Tryz.prog w = .ok (.agg #[]) w := by kernel_rfl
theorem takeF_next {ks ns : List ByteArray} {i : Nat} (hi : i < ns.length) : takeF ks (ns.drop i) = if memT (ns.getD i noT) ks then (false, ks) else takeF (ks ++ [ns.getD i noT]) (ns.drop (i + 1)) := by
 rw [List.drop_eq_getElem_cons hi, takeF, List.getD_eq_getElem?_getD, List.getElem?_eq_getElem hi]
 rfl
set_option maxRecDepth 100000 in
set_option maxHeartbeats 8000000 in
theorem take_any {B M : Nat} {w : World} {a : Option Addr} {c : Nat} {ns ks : List ByteArray} (h : RdS B w (.slice a ns.length c) ns) (hB : B ≤ M ∨ (M < B ∧ ∀ g o, a = some ⟨g, o, none⟩ → g ≠ M)) (hM : SetIs w M ks) (hl : ns.length ≤ 1000000) :
    Calls Tryz.prog 52 #[.map (some M), .slice a ns.length c] w fun e w' => e = .returned (.bool (takeF ks ns).1) ∧ SetIs w' M (takeF ks ns).2 ∧ Kp M w w' := by
 have HR : Hid (RdS B w (.slice a ns.length c) ns) := h
 have HB : Hid (B ≤ M ∨ (M < B ∧ ∀ g o, a = some ⟨g, o, none⟩ → g ≠ M)) := hB
 obtain ⟨hc1, hc2⟩ : ns.length ≤ c ∧ c ≤ 9223372036854775807 := by
  obtain ⟨a', c', h1, h2, h3, _⟩ := h
  obtain ⟨_, _, rfl⟩ := Value.slice.inj h1
  exact ⟨h2, h3⟩
 obtain ⟨T, hT⟩ : ∃ T, T = takeF ks ns := ⟨_, rfl⟩
 rw [← hT]
 have HT : Hid (T = takeF ks ns) := hT
 clear h hB hT
 go_enter Tryz.func52, Tryz.ntmps52
 go_wp2
 go_loopw [11] (fun iv wr => ∃ (i : Nat) (qs : List ByteArray), iv = .int .i64 i ∧ i ≤ ns.length ∧ Hid (T = takeF qs (ns.drop i)) ∧ SetIs wr M qs ∧ Kp M w wr) (fun iv _ => ns.length - (intOf iv).toNat)
 case atStart => exact ⟨0, ks, rfl, Nat.zero_le _, HT, hM, Kp.refl _ _⟩
 case round =>
  obtain ⟨i, qs, rfl, hil, HQ, hS, hk⟩ := hrel
  by_cases hlt : i < ns.length
  · obtain ⟨g, o, rfl, hg, hc⟩ := HR.out.ptr (by omega)
    have q := hk.cell (B := M) (by rcases HB.out with h | ⟨_, h⟩
                                   · omega
                                   · exact h g o rfl) (hc i hlt)
    have HN := takeF_next (ks := qs) hlt
    obtain ⟨x, hx⟩ : ∃ x, x = ns.getD i noT := ⟨_, rfl⟩
    rw [← hx] at q HN
    have hget := hS.has (P := Tryz.prog) (k := x) Tryz.underlying99 Tryz.underlying9 (zero_no wr)
    clear hc hx
    by_cases hm : memT x qs = true
    · rw [if_pos hm] at HN
      have HQ2 : Hid (T = (false, qs)) := HQ.out.trans HN
      rw [hm] at hget
      clear HQ HN hm
      have hb := below_alloc wr (.cells #[] 146)
      have hS1 := hS.below hb hS.lt
      have hk1 := hk.trans (Kp.of_below (B := M) hb)
      go_wp2
      go_ret
      exact ⟨(by rw [HQ2.out]; rfl), by rw [HQ2.out]; exact hS1, hk1⟩
    · rw [if_neg hm] at HN
      have HQ2 : Hid (T = takeF (qs ++ [x]) (ns.drop (i + 1))) := HQ.out.trans HN
      have hb := below_alloc wr (.cells #[] 146)
      have hS1 := hS.below hb hS.lt
      have hk1 := hk.trans (Kp.of_below (B := M) hb)
      have hmf : memT x qs = false := by simpa using hm
      rw [hmf] at hget
      generalize hW1 : wr.alloc (.cells #[] 146) = w1 at *
      obtain ⟨w2, hput, hS2, hk2, _⟩ := hS1.put (P := Tryz.prog) (k := x) Tryz.underlying99 Tryz.underlying9 (fun h => hm (memT_iff.2 h))
      have hk3 := hk1.trans hk2
      clear HQ HN hm hmf hb
      go_wp2
      go_roundw
      case rel => exact ⟨i + 1, qs ++ [x], by go_num, by omega, HQ2, hS2, hk3⟩
      case measure => simp [intOf]; omega
  obtain rfl : i = ns.length := by omega
  have HQ2 : Hid (T = (true, qs)) := by
   have := HQ.out
   rw [List.drop_length, takeF] at this
   exact this
  clear HQ
  go_wp2
  go_ret
  exact ⟨(by rw [HQ2.out]; rfl), by rw [HQ2.out]; exact hS, hk⟩
end Go.Proofs.YtimfnalpmmkndaaGreatDoor
