/- law12.DefineMakes: the walk. -/
import Derived.Test.YtflkclphchafaaaGreatDoorRM
import Derived.Test.YtflkclphchafaaaGreatDoorRL
import Derived.Test.YtflkclphchafaaaGreatDoorDF
namespace Go.Proofs.YtflkclphchafaaaGreatDoor
set_option linter.unusedVariables false
set_option linter.unusedSimpArgs false
open Go.RowKit Go.Shelf

/-- What Make tells, in one form. -/
structure MD where
 nm : ByteArray
 rs : ByteArray
 lf : ByteArray
 rt : ByteArray
 lo : List ByteArray
 lb : List ByteArray
 ats : List Int
 ln : List ByteArray
 er : Int
 at' : Int
def mdOf (ss : List ByteArray) : Sum Nat (Hd × List ByteArray × List Int) → MD
 | .inl n => ⟨⟨#[]⟩, ⟨#[]⟩, ⟨#[]⟩, ⟨#[]⟩, [], [], [], [], 28, n⟩
 | .inr (h, ls, ats) => ⟨h.nm, h.rs, h.lf, h.rt, h.ls, ls, ats, ss, 0, 0⟩
def MakeMD (w : World) (D : MD) (e : Ending) (w' : World) : Prop :=
 ∃ a1 c1 a2 c2 a3 c3 a4 c4, e = .returned (.tuple #[.agg (fnV D.nm D.rs D.lf D.rt (.slice a1 D.lo.length c1) (.slice a2 D.lb.length c2) (.slice a3 D.ats.length c3) (.slice a4 D.ln.length c4) false), .int .i64 D.er, .int .i64 D.at']) ∧ OwS w.heap.size w' (.slice a1 D.lo.length c1) D.lo ∧ OwS w.heap.size w' (.slice a2 D.lb.length c2) D.lb ∧ OwI w.heap.size w' (.slice a3 D.ats.length c3) D.ats ∧ OwS w.heap.size w' (.slice a4 D.ln.length c4) D.ln ∧ Below w.heap.size w w'
theorem makeMD {w : World} {ss : List ByteArray} {o : Sum Nat (Hd × List ByteArray × List Int)} {e : Ending} {w' : World} (h : MakeIs w ss o e w') : MakeMD w (mdOf ss o) e w' := by
 obtain ⟨⟨n, rfl, rfl⟩ | ⟨h, ls, ats, a1, c1, a2, c2, a3, c3, a4, c4, rfl, rfl, q1, q2, q3, q4⟩, k⟩ := h
 · exact ⟨none, 0, none, 0, none, 0, none, 0, rfl, World.ownsRow_nil _ _ _ _, World.ownsRow_nil _ _ _ _, World.ownsRow_nil _ _ _ _, World.ownsRow_nil _ _ _ _, k⟩
 · exact ⟨a1, c1, a2, c2, a3, c3, a4, c4, rfl, q1, q2, q3, q4, k⟩
theorem calls_md {f : FuncId} {args : Array Value} {w : World} {ss : List ByteArray} {o : Sum Nat (Hd × List ByteArray × List Int)} (h : Calls Tryz.prog f args w (MakeIs w ss o)) : Calls Tryz.prog f args w (MakeMD w (mdOf ss o)) := h.mono fun _ _ h => makeMD h
/-- Of a row of one's own, in the block gl, the cells may be turned; nothing else is. -/
def TurnedD (lo hi gl n : Nat) (w wr : World) : Prop := (∀ k, hi ≤ k → wr.heap[k]? = w.heap[k]?) ∧ Below lo w wr ∧ wr.heap.size = w.heap.size ∧ (0 < n → ∃ cur' : Array Value, wr.heap[gl]? = some (.cells cur' 9 (0, 0)) ∧ n ≤ cur'.size ∧ ∀ j, j < n → ∃ x, cur'[j]? = some (.string x))
theorem TurnedD.set {lo hi gl n : Nat} {w wr : World} (h : TurnedD lo hi gl n w wr) (hl : lo ≤ gl) (hh : gl < hi) (i : Nat) (hin : i < n) (x : ByteArray) : TurnedD lo hi gl n w (wr.setCell ⟨gl, i, none⟩ (.string x)) := by
 obtain ⟨h1, h2, hz, h'⟩ := h
 obtain ⟨cur', h3, h4, h5⟩ := h' (by omega)
 refine ⟨fun k hk => ?_, h2.setCell (p := ⟨gl, i, none⟩) hl _, by simp [World.setCell, hz], fun _ => ⟨cur'.setIfInBounds i (.string x), ?_, by simpa using h4, fun j hj => ?_⟩⟩
 · rw [Below.heap_setCell _ _ _ _ (fun e => by have e' : k = gl := e; omega)]
   exact h1 k hk
 · simp [World.setCell, Array.getElem?_modify, h3]
 · by_cases e : i = j
   · subst e
     exact ⟨x, by rw [Array.getElem?_setIfInBounds_self_of_lt (by omega)]⟩
   · rw [Array.getElem?_setIfInBounds_ne e]
     exact h5 j hj
theorem TurnedD.cell {lo hi gl n : Nat} {w wr : World} (h : TurnedD lo hi gl n w wr) {i : Nat} (hi : i < n) : ∃ x, wr.cell? ⟨gl, i, none⟩ = some (.string x) ∧ wr.frozen? ⟨gl, i, none⟩ = false := by
 obtain ⟨h1, h2, _, h'⟩ := h
 obtain ⟨cur', h3, h4, h5⟩ := h' (by omega)
 obtain ⟨x, hx⟩ := h5 i hi
 refine ⟨x, ?_, Lib.frozen_of_heap h3 i⟩
 rw [Lib.cell_of_heap h3]
 exact hx
theorem own_other {base e n : Nat} {w w' : World} {v : Value} {xs : List Value} (h : w.ownsRow base e 1 v n xs) (hb : ∀ k, base ≤ k → w'.heap[k]? = w.heap[k]?) : w'.ownsRow base e 1 v n xs := by
 obtain ⟨h1, h | ⟨g, cap, cur, hv, hg', hh, r⟩⟩ := h
 · exact ⟨h1, Or.inl h⟩
 · exact ⟨h1, Or.inr ⟨g, cap, cur, hv, hg', by rw [hb g hg']; exact hh, r⟩⟩
theorem turned_new {lo hi : Nat} {w w5 : World} {a : Option Addr} {c : Nat} {ss : List ByteArray} (h : OwS lo w (.slice a ss.length c) ss) (hh : w.heap.size ≤ hi) (h5 : OwS lo w5 (.slice a ss.length c) ss) : ∃ gl, (0 < ss.length → a = some ⟨gl, 0, none⟩ ∧ lo ≤ gl ∧ gl < hi ∧ ss.length ≤ c ∧ c ≤ 9223372036854775807) ∧ TurnedD lo hi gl ss.length w5 w5 := by
 have h' := h5
 have b1 := h.lt
 obtain ⟨h1, ⟨hv, hn⟩ | ⟨g, cap, cur, hv, hg, hx, r1, r2, r3, r4⟩⟩ := h'
 · exact ⟨0, fun h0 => by omega, fun _ _ => rfl, Below.refl _ _, rfl, fun h0 => by omega⟩
 · obtain ⟨rfl, _, rfl⟩ := Value.slice.inj hv
   have hc : ∀ j, j < ss.length → cur[j]? = some (.string (ss.getD j noT)) := fun j hj => by
    have h2 := World.ownsRow.cellAt h5 j (by omega)
    rw [getD_mapS hj] at h2
    rw [← h2, Lib.cell_of_heap hx]
   have b2 := b1 g rfl
   refine ⟨g, fun h0 => ⟨rfl, hg, by omega, r1, r2⟩, fun _ _ => rfl, Below.refl _ _, rfl, fun h0 => ⟨cur, hx, ?_, fun j hj => ⟨_, hc j hj⟩⟩⟩
   have := hc (ss.length - 1) (by omega)
   obtain ⟨this, _⟩ := Array.getElem?_eq_some_iff.1 this
   omega
set_option maxRecDepth 100000 in
set_option maxHeartbeats 16000000 in
theorem defineMakes_walk {B : Nat} {w : World} {a : Option Addr} {c : Nat} {ss : List ByteArray} (h : RdS B w (.slice a ss.length c) ss) (hB : B ≤ w.heap.size) (hsz : ∀ x ∈ ss, x.size ≤ 9223372036854775807) (hsl : ss.length * 16 ≤ 140737488351232) (hT : Lib.Utf8Tabs 0 1 w) :
    Calls Tryz.prog 3 #[.slice a ss.length c] w fun e w' => e = .returned (.bool true) ∧ Below w.heap.size w w' := by
 obtain ⟨ne, hne⟩ := tellsErr_ex
 have kM := fun {B : Nat} {W : World} {a : Option Addr} {c : Nat} (h : RdS B W (.slice a ss.length c) ss) (hB : B ≤ W.heap.size) => calls_md (fnMake_any hne h hB hsz)
 have kR := fun {B : Nat} {W : World} {a : Option Addr} {c : Nat} (h : RdS B W (.slice a ss.length c) ss) (hB : B ≤ W.heap.size) (hT : Lib.Utf8Tabs 0 1 W) => calls_md (refMake_any hne h hB hsz hT)
 have HKM : Hid (∀ {B : Nat} {W : World} {a : Option Addr} {c : Nat}, RdS B W (.slice a ss.length c) ss → B ≤ W.heap.size → Calls Tryz.prog 5 #[.slice a ss.length c] W (MakeMD W (mdOf ss (makeF ne ss)))) := kM
 have HKR : Hid (∀ {B : Nat} {W : World} {a : Option Addr} {c : Nat}, RdS B W (.slice a ss.length c) ss → B ≤ W.heap.size → Lib.Utf8Tabs 0 1 W → Calls Tryz.prog 6 #[.slice a ss.length c] W (MakeMD W (mdOf ss (makeF ne ss)))) := kR
 clear kM kR
 generalize mdOf ss (makeF ne ss) = D at *
 obtain ⟨nm, rs, lf, rt, lo, lb, ats, ln, er, at'⟩ := D
 have HR : Hid (RdS B w (.slice a ss.length c) ss) := h
 have HTB : Hid (Lib.Utf8Tabs 0 1 w) := hT
 have HON : Hid (OwS w.heap.size w (.slice none 0 0) []) := World.ownsRow_nil _ _ _ _
 clear h hT hsz
 go_enter Tryz.func3, Tryz.ntmps3
 go_wp2_with (at_builtin; refine append_strs rfl _ _ rfl rfl rfl (xs := []) (ys := ss) HON.out HR.out (by simp only [List.length_nil]; omega) (Nat.le_refl _) ?_)
 intro v1 w1 hO1 hgr
 try rw [List.nil_append] at hO1
 obtain ⟨x1, y1, rfl⟩ := row_form2S hO1
 have k1 : Below w.heap.size w w1 := (Below.refl _ _).grown hgr (Nat.le_refl _) (fun k hk => by cases hk)
 have s1 := k1.size
 have HO1 : Hid (OwS w.heap.size w1 (.slice x1 ss.length y1) ss) := hO1
 clear hO1 hgr HON
 go_wp2_with fail
 refine (HKM.out (RdS.of_row HO1.out) (Nat.le_refl _)).mono ?_
 rintro e w2 ⟨a1, c1, a2, c2, a3, c3, a4, c4, rfl, p1, p2, p3, p4, k2⟩
 simp only at p1 p2 p3 p4 ⊢
 have s2 := k2.size
 have HP : Hid (OwS w1.heap.size w2 (.slice a1 lo.length c1) lo ∧ OwS w1.heap.size w2 (.slice a2 lb.length c2) lb ∧ OwI w1.heap.size w2 (.slice a3 ats.length c3) ats ∧ OwS w1.heap.size w2 (.slice a4 ln.length c4) ln) := ⟨p1, p2, p3, p4⟩
 clear p1 p2 p3 p4 HKM
 go_upto_region 4 with fail
 have k3 := below_alloc w2 (.cells (fnV nm rs lf rt (.slice a1 lo.length c1) (.slice a2 lb.length c2) (.slice a3 ats.length c3) (.slice a4 ln.length c4) false) 25)
 have F3 := boxA_new w2 (fnV nm rs lf rt (.slice a1 lo.length c1) (.slice a2 lb.length c2) (.slice a3 ats.length c3) (.slice a4 ln.length c4) false) 25
 have s3 : w2.heap.size < (w2.alloc (.cells (fnV nm rs lf rt (.slice a1 lo.length c1) (.slice a2 lb.length c2) (.slice a3 ats.length c3) (.slice a4 ln.length c4) false) 25)).heap.size := by simp
 generalize hW3 : w2.alloc (.cells (fnV nm rs lf rt (.slice a1 lo.length c1) (.slice a2 lb.length c2) (.slice a3 ats.length c3) (.slice a4 ln.length c4) false) 25) = w3 at *
 have g3 : Below w.heap.size w w3 := (k1.trans (k2.mono s1)).trans (k3.mono (by omega))
 clear hW3
 go_wp2_with fail
 refine (HKR.out (HR.out.below g3 hB) (by omega) (Utf8Tabs.to HTB.out g3 (Nat.le_refl _))).mono ?_
 rintro e w4 ⟨b1, d1, b2, d2, b3, d3, b4, d4, rfl, q1, q2, q3, q4, k4⟩
 simp only at q1 q2 q3 q4 ⊢
 have s4 := k4.size
 have HQ : Hid (OwS w3.heap.size w4 (.slice b1 lo.length d1) lo ∧ OwS w3.heap.size w4 (.slice b2 lb.length d2) lb ∧ OwI w3.heap.size w4 (.slice b3 ats.length d3) ats ∧ OwS w3.heap.size w4 (.slice b4 ln.length d4) ln) := ⟨q1, q2, q3, q4⟩
 clear q1 q2 q3 q4 HKR
 go_upto_region 5 with fail
 have F4 := F3.below k4 s3
 have k5 := below_alloc w4 (.cells (fnV nm rs lf rt (.slice b1 lo.length d1) (.slice b2 lb.length d2) (.slice b3 ats.length d3) (.slice b4 ln.length d4) false) 25)
 have G5 := boxA_new w4 (fnV nm rs lf rt (.slice b1 lo.length d1) (.slice b2 lb.length d2) (.slice b3 ats.length d3) (.slice b4 ln.length d4) false) 25
 have F5 := F4.below k5 (by omega)
 have s5 : w4.heap.size < (w4.alloc (.cells (fnV nm rs lf rt (.slice b1 lo.length d1) (.slice b2 lb.length d2) (.slice b3 ats.length d3) (.slice b4 ln.length d4) false) 25)).heap.size := by simp
 generalize hW5 : w4.alloc (.cells (fnV nm rs lf rt (.slice b1 lo.length d1) (.slice b2 lb.length d2) (.slice b3 ats.length d3) (.slice b4 ln.length d4) false) 25) = w5 at *
 have g5 : Below w.heap.size w w5 := (g3.trans (k4.mono (by omega))).trans (k5.mono (by omega))
 have HP5 : Hid (OwS w1.heap.size w5 (.slice a1 lo.length c1) lo ∧ OwS w1.heap.size w5 (.slice a2 lb.length c2) lb ∧ OwI w1.heap.size w5 (.slice a3 ats.length c3) ats ∧ OwS w1.heap.size w5 (.slice a4 ln.length c4) ln) := by
  obtain ⟨p1, p2, p3, p4⟩ := HP.out
  have kk : Below w2.heap.size w2 w5 := (k3.trans (k4.mono (by omega))).trans (k5.mono (by omega))
  exact ⟨own_below p1 kk (Nat.le_refl _), own_below p2 kk (Nat.le_refl _), own_below p3 kk (Nat.le_refl _), own_below p4 kk (Nat.le_refl _)⟩
 have HQ5 : Hid (OwS w3.heap.size w5 (.slice b1 lo.length d1) lo ∧ OwS w3.heap.size w5 (.slice b2 lb.length d2) lb ∧ OwI w3.heap.size w5 (.slice b3 ats.length d3) ats ∧ OwS w3.heap.size w5 (.slice b4 ln.length d4) ln) := by
  obtain ⟨q1, q2, q3, q4⟩ := HQ.out
  exact ⟨own_below q1 k5 (Nat.le_refl _), own_below q2 k5 (Nat.le_refl _), own_below q3 k5 (Nat.le_refl _), own_below q4 k5 (Nat.le_refl _)⟩
 have HO5 : Hid (OwS w.heap.size w5 (.slice x1 ss.length y1) ss) := own_below HO1.out (((k2.trans (k3.mono (by omega))).trans (k4.mono (by omega))).trans (k5.mono (by omega))) (Nat.le_refl _)
 clear HP HQ F3 F4
 obtain ⟨gl, hgl, hTU⟩ := turned_new HO1.out (Nat.le_refl _) HO5.out
 have HGL : Hid (0 < ss.length → x1 = some ⟨gl, 0, none⟩ ∧ w.heap.size ≤ gl ∧ gl < w1.heap.size ∧ ss.length ≤ y1 ∧ y1 ≤ 9223372036854775807) := hgl
 have HTU : Hid (TurnedD w.heap.size w1.heap.size gl ss.length w5 w5) := hTU
 clear HO1 HO5 hgl hTU
 clear hW5
 go_wp2
 go_loopw [10] (fun iv wr => ∃ i : Nat, i ≤ ss.length ∧ iv = .int .i64 i ∧ Hid (TurnedD w.heap.size w1.heap.size gl ss.length w5 wr)) (fun iv _ => ss.length - (intOf iv).toNat)
 case atStart => exact ⟨0, Nat.zero_le _, rfl, HTU⟩
 case round =>
  obtain ⟨i, hi, rfl, HTr⟩ := hrel
  by_cases hlt : i < ss.length
  · obtain ⟨hx1, hlo, hhi, hy1, hy2⟩ := HGL.out (by omega)
    subst hx1
    obtain ⟨x, q1, q2⟩ := HTr.out.cell hlt
    have HT2 : Hid (TurnedD w.heap.size w1.heap.size gl ss.length w5 (wr.setCell ⟨gl, i, none⟩ (.string ⟨#[63]⟩))) := HTr.out.set hlo hhi i hlt _
    have i1 : (i : Int) < (ss.length : Int) := by omega
    go_wp2
    go_roundw
    case rel => exact ⟨i + 1, by omega, by go_num, HT2⟩
    case measure => simp [intOf]; omega
  · obtain ⟨t1, t2, t3, _⟩ := HTr.out
    have i1 : ¬ (i : Int) < (ss.length : Int) := by omega
    have Fr : BoxA wr w2.heap.size 25 (fnV nm rs lf rt (.slice a1 lo.length c1) (.slice a2 lb.length c2) (.slice a3 ats.length c3) (.slice a4 ln.length c4) false) := by
     have := F5
     unfold BoxA at this ⊢
     rw [t1 _ (by omega)]; exact this
    have Gr : BoxA wr w4.heap.size 25 (fnV nm rs lf rt (.slice b1 lo.length d1) (.slice b2 lb.length d2) (.slice b3 ats.length d3) (.slice b4 ln.length d4) false) := by
     have := G5
     unfold BoxA at this ⊢
     rw [t1 _ (by omega)]; exact this
    have gr : Below w.heap.size w wr := g5.trans t2
    have sr : w5.heap.size ≤ wr.heap.size := by omega
    have HPr : Hid (OwS w1.heap.size wr (.slice a1 lo.length c1) lo ∧ OwS w1.heap.size wr (.slice a2 lb.length c2) lb ∧ OwI w1.heap.size wr (.slice a3 ats.length c3) ats ∧ OwS w1.heap.size wr (.slice a4 ln.length c4) ln) := by
     obtain ⟨p1, p2, p3, p4⟩ := HP5.out
     exact ⟨own_other p1 t1, own_other p2 t1, own_other p3 t1, own_other p4 t1⟩
    have HQr : Hid (OwS w3.heap.size wr (.slice b1 lo.length d1) lo ∧ OwS w3.heap.size wr (.slice b2 lb.length d2) lb ∧ OwI w3.heap.size wr (.slice b3 ats.length d3) ats ∧ OwS w3.heap.size wr (.slice b4 ln.length d4) ln) := by
     obtain ⟨p1, p2, p3, p4⟩ := HQ5.out
     have t1' : ∀ k, w3.heap.size ≤ k → wr.heap[k]? = w5.heap[k]? := fun k hk => t1 k (by omega)
     exact ⟨own_other p1 t1', own_other p2 t1', own_other p3 t1', own_other p4 t1'⟩
    clear HTr t1 t2 t3 HTU HGL HP5 HQ5 F5 G5 g5
    go_wp2_with fail
    refine (live12_ok wr).mono ?_
    rintro e w6 ⟨rfl, k6⟩
    have s6 := k6.size
    have F6 := Fr.below k6 Fr.lt
    have G6 := Gr.below k6 Gr.lt
    have g6 : Below w.heap.size w w6 := gr.trans (k6.mono gr.size)
    have C6 : Calls Tryz.prog 8 #[.agg (fnV nm rs lf rt (.slice a1 lo.length c1) (.slice a2 lb.length c2) (.slice a3 ats.length c3) (.slice a4 ln.length c4) false), .agg (fnV nm rs lf rt (.slice b1 lo.length d1) (.slice b2 lb.length d2) (.slice b3 ats.length d3) (.slice b4 ln.length d4) false)] w6 fun e w' => e = .returned (.bool true) ∧ Below w6.heap.size w6 w' := by
     obtain ⟨p1, p2, p3, p4⟩ := HPr.out
     obtain ⟨q1, q2, q3, q4⟩ := HQr.out
     exact refSame12_is ((RdS.of_row p1).below k6 (Nat.le_refl _)) ((RdS.of_row q1).below k6 (Nat.le_refl _)) ((RdS.of_row p2).below k6 (Nat.le_refl _)) ((RdS.of_row q2).below k6 (Nat.le_refl _)) ((RdI.of_row p3).below k6 (Nat.le_refl _)) ((RdI.of_row q3).below k6 (Nat.le_refl _)) ((RdS.of_row p4).below k6 (Nat.le_refl _)) ((RdS.of_row q4).below k6 (Nat.le_refl _)) s6
    have HC6 : Hid (Calls Tryz.prog 8 _ w6 _) := C6
    clear C6 HPr HQr Fr Gr
    have y0 := F6.cell 0 rfl
    have y1 := F6.cell 1 rfl
    have y2 := F6.cell 2 rfl
    have y3 := F6.cell 3 rfl
    have y4 := F6.cell 4 rfl
    have y5 := F6.cell 5 rfl
    have y6 := F6.cell 6 rfl
    have y7 := F6.cell 7 rfl
    have y8 := F6.cell 8 rfl
    have z0 := G6.cell 0 rfl
    have z1 := G6.cell 1 rfl
    have z2 := G6.cell 2 rfl
    have z3 := G6.cell 3 rfl
    have z4 := G6.cell 4 rfl
    have z5 := G6.cell 5 rfl
    have z6 := G6.cell 6 rfl
    have z7 := G6.cell 7 rfl
    have z8 := G6.cell 8 rfl
    go_wp2_with fail
    refine HC6.out.mono ?_
    rintro e w7 ⟨rfl, k7⟩
    have g7 : Below w.heap.size w w7 := g6.trans (k7.mono g6.size)
    go_wp2
    go_ret
    exact ⟨rfl, g7⟩
end Go.Proofs.YtflkclphchafaaaGreatDoor
