/- rat.Print of any number. -/
import Derived.Test.YtahfllppbfnpfaaGreatDoorJ4
import Derived.Test.YtahfllppbfnpfaaGreatDoorJ6
import Derived.RangeFuncNested
import Derived.RangeFuncBound
import Derived.RangeFuncCalls
import Derived.RangeFuncLeaves
import Derived.RangeFuncBox
import Derived.Test.YtahfllppbfnpfaaGreatDoorProg
import Derived.Test.YtahfllppbfnpfaaGreatDoorJ1
import Derived.Test.YtahfllppbfnpfaaGreatDoorJ3
import Derived.Laws.AppendOwnNone
import Derived.Deep.RegionHeld3
import Derived.Laws.Cover4
import Derived.Deep.Cut
import Derived.Deep.CutRange
import Derived.WalkSmall
import Derived.Shelf.Abstract
import Derived.Shelf.RegionOpen
import Derived.OwnWalkIn
import Derived.TacticsInMore
import Derived.LoopNIn
import Derived.LoopIn
import Derived.Maps.AppendAt
namespace Go.Proofs.YtahfllppbfnpfaaGreatDoor
set_option linter.unusedVariables false
set_option linter.unusedSimpArgs false
open Go.RowKit

/-- What Print tells. -/
def PrintSpec (b : Bool) (ns ds : List Int) (t : ByteArray) : Prop := (RightP b ns ds → t = ratText b ns ds) ∧ (¬ RightP b ns ds → t = ⟨#[]⟩)
theorem PrintSpec.unique {b : Bool} {ns ds : List Int} {t u : ByteArray} (h : PrintSpec b ns ds t) (k : PrintSpec b ns ds u) : u = t := by
  by_cases hr : RightP b ns ds
  · rw [h.1 hr, k.1 hr]
  · rw [h.2 hr, k.2 hr]

section
variable {w : World} {b : Bool} {a1 a2 : Option Addr} {c1 c2 : Nat} {ns ds : List Int}
set_option maxRecDepth 100000 in
set_option maxHeartbeats 3200000 in
theorem print_bad (h1 : Rd w.heap.size w (.slice a1 ns.length c1) ns) (h2 : Rd w.heap.size w (.slice a2 ds.length c2) ds) (hr : ¬ RightP b ns ds) :
    Calls Tryz.prog 4 #[.agg #[.bool b, .slice a1 ns.length c1, .slice a2 ds.length c2]] w fun e w' => e = .returned (.string ⟨#[]⟩) ∧ Below w.heap.size w w' := by
  have X := nvar_new (b := b) h1 h2
  have g := below_alloc w (.cells #[.bool b, .slice a1 ns.length c1, .slice a2 ds.length c2] 24)
  have HR : Hid (¬ RightP b ns ds) := hr
  clear h1 h2 hr
  obtain ⟨X0, X1, X2⟩ := X.cells
  go_enter Tryz.func4, Tryz.ntmps4
  go_wp2_with fail
  clear X0 X1 X2
  generalize hA : w.alloc (.cells #[.bool b, .slice a1 ns.length c1, .slice a2 ds.length c2] 24) = v at *
  clear hA
  refine (right_rat X.rn X.rd (Nat.le_refl _)).mono ?_
  rintro e wa ⟨⟨r, rfl, hr⟩, ba⟩
  obtain rfl : r = false := by
    cases r with
    | false => rfl
    | true => exact absurd (hr.1 rfl) HR.out
  clear hr
  go_wp2
  go_ret
  exact ⟨rfl, g.trans (ba.mono g.size)⟩
theorem print_all (h1 : Rd w.heap.size w (.slice a1 ns.length c1) ns) (h2 : Rd w.heap.size w (.slice a2 ds.length c2) ds) (htab : Lib.TabIs Tryz.prog w "internal/strconv.uint64pow10" .u64 Lib.pow10Tab) :
    Calls Tryz.prog 4 #[.agg #[.bool b, .slice a1 ns.length c1, .slice a2 ds.length c2]] w fun e w' => ∃ t, e = .returned (.string t) ∧ Hid (PrintSpec b ns ds t) ∧ Below w.heap.size w w' := by
  by_cases hr : RightP b ns ds
  · exact (print_rat h1 h2 (Nat.le_refl _) hr htab).mono (fun e w' h => ⟨_, h.1, ⟨fun _ => rfl, fun k => absurd hr k⟩, h.2⟩)
  · exact (print_bad h1 h2 hr).mono (fun e w' h => ⟨_, h.1, ⟨fun k => absurd k hr, fun _ => rfl⟩, h.2⟩)

end
end Go.Proofs.YtahfllppbfnpfaaGreatDoor

/- A range over a function whose items are told together with what they are in memory: the iterator pays a fact on each item ahead of its round, and the body may use it. -/
namespace Go.Proofs.YtahfllppbfnpfaaGreatDoor
set_option linter.unusedVariables false
set_option linter.unusedSimpArgs false
open Go.RowKit

/-- An iterator's word: ahead of each item x it pays Gd (what has come, x, the world); each round goes on, keeps Kp, and leads from J at what has come to J at one more; at the end S holds of all items and the world. -/
def Pays {α : Type} (F : Fence) (n : Nat) (P : Program) (g : Nat) (lb : Array Value) (encs : α → Array Value) (Kp : World → World → Prop) (Gd : List α → α → World → Prop) (S : List α → World → Prop) (w : World) : Prop :=
  ∀ (l : Nat) (J : List α → World → Prop) (W : World), Below w.heap.size w W → AbidesFrom W.heap.size J →
    (∀ pre x W1, J pre W1 → Gd pre x W1 → YieldAt F (n - 1) P l (encs x) W1 fun e W' => e = .returned (.bool true) ∧ J (pre ++ [x]) W' ∧ Kp W1 W') →
    J [] W → CallsIn F n P g (#[.func (.yield l) #[] #[]] ++ lb) W fun e W' => (∃ v, e = .returned v) ∧ ∃ xs, S xs W' ∧ J xs W'

variable {F : Fence} {n : Nat} {P : Program} {w : World}

/-- The loop's two blocks: its record, ready, and the block for deferred calls ahead of it. -/
def Stands (L : Nat) (r : Loop) (W : World) : Prop := W.heap[L + 1]? = some (.loop r) ∧ W.heap[L]? = some (.deferred (some []))
theorem Stands.lt {L : Nat} {r : Loop} {W : World} (h : Stands L r W) : L + 1 < W.heap.size := (Array.getElem?_eq_some_iff.1 h.1).1
theorem Stands.keeps {L : Nat} {r : Loop} {W W' : World} (h : Stands L r W) (hk : KeepsFrom L W W') : Stands L r W' := ⟨hk.same _ _ (by omega) h.1 rfl, hk.same _ _ (Nat.le_refl _) h.2 rfl⟩
theorem Stands.put {L : Nat} {r : Loop} {W : World} (h : Stands L r W) (r' : Loop) : Stands L r' (W.putObj (L + 1) (.loop r')) := ⟨World.putObj_heap_same h.lt, (World.putObj_heap_other (by omega)).trans h.2⟩
theorem Stands.grown {L : Nat} {r : Loop} {W W' : World} {row : Option Nat} (h : Stands L r W) (hg : W.grownBy W' row) (hr : ∀ k, row = some k → ∃ o : Obj, W.heap[k]? = some o ∧ o.isWalk = true) : Stands L r W' :=
  ⟨(grownBy_keeps hg hr h.1 rfl).trans h.1, (grownBy_keeps hg hr h.2 rfl).trans h.2⟩

section
variable {α : Type} {g : Operand} {ps : Array Tmp} {assign body : Code} {Q : Exit → Act → World → Prop} {a : Act} {gf : Nat} {lb : Array Value} {encs : α → Array Value} {Kp : World → World → Prop} {Gd : List α → α → World → Prop} {S : List α → World → Prop} {w0 : World}

/-- One round of such a loop. -/
theorem round_pays {fn : FuncId} {r : Loop} (hfn : F.fn fn) (hr : r = { state := .ready, pending := none, fn, tmps := a.tmps, params := ps, assign, body, defers := w.heap.size })
    (hKt : ∀ {A B C : World}, Kp A B → Kp B C → Kp A C) (hKb : ∀ (W : World) (l : Nat) (o o' : Obj), w.heap.size ≤ l → W.heap[l]? = some o → o.isCells = false → o.isWalk = false → Kp W (W.putObj l o')) (hps : ∀ x, (encs x).size = ps.size)
    (I : List α → World → Prop) (hI : OwnFrom w.heap.size I) (Ax : List α → α → Act → World → Prop) (hAx : ∀ pre x a', OwnFrom w.heap.size (fun (_ : Unit) W => Ax pre x a' W))
    (hassign : ∀ (l : Nat) (pre : List α) (x : α) (W : World) (K : Act → World → Prop), I pre W → Gd pre x W → (∀ a' W', KeepsFrom w.heap.size W W' → Kp W W' → I pre W' → Ax pre x a' W' → K a' W') →
      assign.wpIn (F.inRound l) (n - 1 - 1) P (Exit.then K (fun _ _ _ => False)) { tmps := (ps.zip (encs x)).foldl (fun t (p, v) => t.setIfInBounds p v) a.tmps, defers := [] } W)
    (hbody : ∀ (l : Nat) (pre : List α) (x : α) (a' : Act) (W : World), I pre W → Ax pre x a' W → body.wpIn (F.inRound l) (n - 1 - 1) P (fun e _ W' => e = .normal ∧ KeepsFrom w.heap.size W W' ∧ Kp W W' ∧ I (pre ++ [x]) W') a' W)
    (pre : List α) (x : α) (W : World) (hi : I pre W) (hst : Stands w.heap.size r W) (hG : Gd pre x W) :
    YieldAt F (n - 1 - 1) P (w.heap.size + 1) (encs x) W fun e W' => e = .returned (.bool true) ∧ (I (pre ++ [x]) W' ∧ Stands w.heap.size r W') ∧ Kp W W' := by
  have hy := run_yield (P := P) (args := encs x) hst.1 (by rw [hr]; exact hps x)
  rw [hr] at hy
  refine ⟨fn, _, assign, body, hy, roundIn_of_wpIn hfn (hassign _ pre x W _ hi hG ?_)⟩
  intro a' Wa hka hkp hia hax
  have hs1 := hst.keeps hka
  refine ⟨_, run_beginRound hs1.1 (by rw [hr]), ?_⟩
  have hs2 := hs1.put { r with state := .busy }
  have hk2 : Kp Wa _ := hKb Wa (w.heap.size + 1) _ (.loop { r with state := .busy }) (by omega) hs1.1 rfl rfl
  refine wpIn_mono (hbody _ pre x a' _ (hI.putObj _ hia (by omega) hs1.1 rfl) ((hAx pre x a').putObj (s := ()) _ hax (by omega) hs1.1 rfl)) ?_
  rintro e a3 W3 ⟨rfl, hk3, hkp3, hi3⟩
  have hs3 := hs2.keeps hk3
  have he := run_endRound (P := P) none hs3.1
  have er : ({ r with state := .busy } : Loop) = { r with state := .busy } := rfl
  have e4 : ({ ({ r with state := .busy } : Loop) with state := if (none : Option Code).isNone then .ready else .done, pending := none } : Loop) = r := by rw [hr]; rfl
  rw [e4] at he
  exact ⟨_, _, he, rfl, ⟨hI.putObj _ hi3 (by omega) hs3.1 rfl, hs3.put r⟩, hKt hkp (hKt hk2 (hKt hkp3 (hKb W3 (w.heap.size + 1) _ _ (by omega) hs3.1 rfl rfl)))⟩

theorem wpIn_range_pays (hro : F.round = none) (h1 : 1 ≤ n) (hg : a.eval g = .func (.func gf) #[] lb) (hFg : F.fn gf) (eg : ∀ args w, (callFunc gf args).run P w = .ok (.enter gf args) w)
    (hseq : Pays F (n - 1) P gf lb encs Kp Gd S w0) (hKt : ∀ {A B C : World}, Kp A B → Kp B C → Kp A C) (hKb : ∀ (W : World) (l : Nat) (o o' : Obj), w.heap.size ≤ l → W.heap[l]? = some o → o.isCells = false → o.isWalk = false → Kp W (W.putObj l o')) (hb0 : Below w0.heap.size w0 w) (hps : ∀ x, (encs x).size = ps.size)
    (I : List α → World → Prop) (hI : OwnFrom w.heap.size I) (h0 : I [] w) (hS : OwnFrom w.heap.size S) (Ax : List α → α → Act → World → Prop) (hAx : ∀ pre x a', OwnFrom w.heap.size (fun (_ : Unit) W => Ax pre x a' W))
    (hassign : ∀ (l : Nat) (pre : List α) (x : α) (W : World) (K : Act → World → Prop), I pre W → Gd pre x W → (∀ a' W', KeepsFrom w.heap.size W W' → Kp W W' → I pre W' → Ax pre x a' W' → K a' W') →
      assign.wpIn (F.inRound l) (n - 1 - 1) P (Exit.then K (fun _ _ _ => False)) { tmps := (ps.zip (encs x)).foldl (fun t (p, v) => t.setIfInBounds p v) a.tmps, defers := [] } W)
    (hbody : ∀ (l : Nat) (pre : List α) (x : α) (a' : Act) (W : World), I pre W → Ax pre x a' W → body.wpIn (F.inRound l) (n - 1 - 1) P (fun e _ W' => e = .normal ∧ KeepsFrom w.heap.size W W' ∧ Kp W W' ∧ I (pre ++ [x]) W') a' W)
    (hdone : ∀ (D : Nat) (xs : List α) (W : World), w.heap.size ≤ D → S xs W → I xs W → W.heap[D]? = some (.deferred (some [])) → Q .normal { a with defers := { target := .collected D, args := #[] } :: a.defers } W) :
    (Code.rangeFunc g ps assign body).wpIn F n P Q a w := by
  refine wpIn_rangeFunc fun fn hfn => ?_
  obtain ⟨r, hr⟩ : ∃ r : Loop, r = { state := .ready, pending := none, fn, tmps := a.tmps, params := ps, assign, body, defers := w.heap.size } := ⟨_, rfl⟩
  have hs0 : Stands w.heap.size r ((w.alloc (.deferred (some []))).alloc (.loop r)) := by
    refine ⟨?_, (Below.heap_alloc _ _ _ (by simp)).trans (World.alloc_heap_new w _)⟩
    have := World.alloc_heap_new (w.alloc (.deferred (some []))) (.loop r)
    rwa [World.size_alloc] at this
  have hi0 : I [] ((w.alloc (.deferred (some []))).alloc (.loop r)) := hI.alloc _ (hI.alloc _ h0)
  have hb1 : Below w0.heap.size w0 ((w.alloc (.deferred (some []))).alloc (.loop r)) := hb0.trans ((((Below.refl _ w).alloc (Nat.le_refl _) _).alloc (by simp) _).mono hb0.size)
  have hz : w.heap.size ≤ ((w.alloc (.deferred (some []))).alloc (.loop r)).heap.size := by simp; omega
  have he : (Instr.enterLoop fn a.tmps ps assign body F.round).run P w = .ok (w.heap.size + 1, [{ target := .collected w.heap.size, args := #[] }]) ((w.alloc (.deferred (some []))).alloc (.loop r)) := by
    rw [hro, hr]; exact run_enterLoop_outer _ _ _ _ _
  generalize (w.alloc (.deferred (some []))).alloc (.loop r) = W1 at *
  refine ⟨w.heap.size + 1, _, W1, { target := .fn (.func gf) lb, args := #[.func (.yield (w.heap.size + 1)) #[] #[]] }, W1, gf, #[.func (.yield (w.heap.size + 1)) #[] #[]] ++ lb, W1, he, ?_, ?_, ?_, fun _ => h1, ?_⟩
  · simp only [resolve, hg]
    simp [go_sem]
  · intro f' hf'; simp [Target.leads] at hf'; subst hf'; exact hFg
  · simp [invoke, go_sem, eg]
  · have hwalk : ∀ {A : World} {row : Option Nat}, (∀ k, row = some k → W1.heap.size ≤ k ∧ ∃ o : Obj, A.heap[k]? = some o ∧ o.isWalk = true) → (∀ k, row = some k → w.heap.size ≤ k ∧ ∃ o : Obj, A.heap[k]? = some o ∧ o.isCells = false) :=
      fun h k e => by obtain ⟨hB, o, ho, hw⟩ := h k e; exact ⟨by omega, o, ho, Obj.not_cells_of_walk hw⟩
    refine (hseq (w.heap.size + 1) (fun pre W => I pre W ∧ Stands w.heap.size r W) W1 hb1 (fun s A B row hs hg' hrow => ⟨hI s A B row hs.1 hg' (hwalk hrow), hs.2.grown hg' (fun k e => (hrow k e).2)⟩)
      (fun pre x W hJ hG => round_pays (n := n) (P := P) (w := w) (a := a) (Kp := Kp) (Gd := Gd) hfn hr (fun h h' => hKt h h') hKb hps I hI Ax hAx hassign hbody pre x W hJ.1 hJ.2 hG) ⟨hi0, hs0⟩).mono ?_
    rintro e W2 ⟨⟨v, rfl⟩, xs, hxs, hi, hst⟩
    have hend := run_endLoop (P := P) hst.1 (by rw [hr]; simp)
    have hp : r.pending = none := by rw [hr]
    rw [hp] at hend
    exact ⟨none, _, hend, hdone _ xs _ (Nat.le_refl _) (hS.putObj _ hxs (by omega) hst.1 rfl) (hI.putObj _ hi (by omega) hst.1 rfl) ((World.putObj_heap_other (by omega)).trans hst.2)⟩
end
end Go.Proofs.YtahfllppbfnpfaaGreatDoor

/- lex: sorts of characters, and runs of them. -/
namespace Go.Proofs.YtahfllppbfnpfaaGreatDoor
set_option linter.unusedVariables false
set_option linter.unusedSimpArgs false
open Go.RowKit

def bl (c : Int) : Bool := decide (c = 32) || decide (c = 9)
def dg (c : Int) : Bool := decide (48 ≤ c) && decide (c ≤ 57)
def inn (c : Int) : Bool := dg c || decide (c = 46) || decide (c = 114)
/-- v reads as the characters cs; its memory lies below block B. -/
def RdR (B : Nat) (w : World) (v : Value) (cs : List Int) : Prop :=
  ∃ a cap, v = .slice a cs.length cap ∧ cs.length ≤ cap ∧ cap ≤ 9223372036854775807 ∧
    (cs.length = 0 ∨ ∃ b off, a = some ⟨b, off, none⟩ ∧ b < B ∧ ∀ j, j < cs.length → w.cell? ⟨b, off + j, none⟩ = some (.int .i32 (cs.getD j 0)))
theorem RdR.below {B : Nat} {w w' : World} {v : Value} {cs : List Int} (h : RdR B w v cs) (hb : Below B w w') : RdR B w' v cs := by
  obtain ⟨a, cap, hv, h1, h2, h3⟩ := h
  refine ⟨a, cap, hv, h1, h2, ?_⟩
  rcases h3 with h3 | ⟨b, off, ha, hbB, hc⟩
  · exact Or.inl h3
  · exact Or.inr ⟨b, off, ha, hbB, fun j hj => (hb.cell (p := ⟨b, off + j, none⟩) hbB).trans (hc j hj)⟩
theorem RdR.mono {B B' : Nat} {w : World} {v : Value} {cs : List Int} (h : RdR B w v cs) (hB : B ≤ B') : RdR B' w v cs := by
  obtain ⟨a, cap, hv, h1, h2, h3⟩ := h
  refine ⟨a, cap, hv, h1, h2, ?_⟩
  rcases h3 with h3 | ⟨b, off, ha, hbB, hc⟩
  · exact Or.inl h3
  · exact Or.inr ⟨b, off, ha, by omega, hc⟩

set_option maxRecDepth 100000 in
theorem isBlank_any (c : Int) (w : World) : Calls Tryz.prog 53 #[.int .i32 c] w fun e w' => e = .returned (.bool (bl c)) ∧ w' = w := by
  unfold bl
  go_enter Tryz.func53, Tryz.ntmps53
  by_cases h1 : c = 32
  · subst h1
    go_wp2
    go_ret
    exact ⟨rfl, rfl⟩
  · have e1 : (c == 32) = false := by rw [beq_eq_false_iff_ne]; exact h1
    by_cases h2 : c = 9
    · subst h2
      go_wp2
      go_ret
      exact ⟨rfl, rfl⟩
    · have e2 : (c == 9) = false := by rw [beq_eq_false_iff_ne]; exact h2
      rw [decide_eq_false h1, decide_eq_false h2]
      go_wp2
      go_ret
      exact ⟨rfl, rfl⟩
set_option maxRecDepth 100000 in
theorem isDigit_any (c : Int) (w : World) : Calls Tryz.prog 54 #[.int .i32 c] w fun e w' => e = .returned (.bool (dg c)) ∧ w' = w := by
  unfold dg
  go_enter Tryz.func54, Tryz.ntmps54
  by_cases h1 : 48 ≤ c
  · by_cases h2 : c ≤ 57
    · rw [decide_eq_true h1, decide_eq_true h2]
      go_wp2
      go_ret
      exact ⟨by simp, rfl⟩
    · rw [decide_eq_true h1, decide_eq_false h2]
      go_wp2
      go_ret
      exact ⟨by simp, rfl⟩
  · rw [decide_eq_false h1]
    go_wp2
    go_ret
    exact ⟨by simp, rfl⟩
set_option maxRecDepth 100000 in
theorem inNumber_any (c : Int) (w : World) : Calls Tryz.prog 83 #[.int .i32 c] w fun e w' => e = .returned (.bool (inn c)) ∧ w' = w := by
  go_enter Tryz.func83, Tryz.ntmps83
  go_wp2_with fail
  refine (isDigit_any c _).mono ?_
  rintro e w' ⟨rfl, rfl⟩
  cases hd : dg c with
  | true =>
    have HV : Hid (inn c = true) := by unfold Hid inn; rw [hd]; rfl
    clear hd
    go_wp2
    go_ret
    exact ⟨by rw [HV.out]; rfl, rfl⟩
  | false =>
    by_cases h1 : c = 46
    · have HV : Hid (inn c = true) := by unfold Hid inn; rw [hd, decide_eq_true h1]; rfl
      have e1 : (c == 46) = true := by rw [beq_iff_eq]; exact h1
      clear hd h1
      go_wp2
      go_ret
      exact ⟨by rw [HV.out]; rfl, rfl⟩
    · have e1 : (c == 46) = false := by rw [beq_eq_false_iff_ne]; exact h1
      by_cases h2 : c = 114
      · have HV : Hid (inn c = true) := by unfold Hid inn; rw [hd, decide_eq_false h1, decide_eq_true h2]; rfl
        have e2 : (c == 114) = true := by rw [beq_iff_eq]; exact h2
        clear hd h1 h2
        go_wp2
        go_ret
        exact ⟨by rw [HV.out]; rfl, rfl⟩
      · have HV : Hid (inn c = false) := by unfold Hid inn; rw [hd, decide_eq_false h1, decide_eq_false h2]; rfl
        have e2 : (c == 114) = false := by rw [beq_eq_false_iff_ne]; exact h2
        clear hd h1 h2
        go_wp2
        go_ret
        exact ⟨by rw [HV.out]; rfl, rfl⟩

/-- Where a run that begins at i ends. -/
def runEnd (p : Int → Bool) (cs : List Int) (i : Nat) : Nat := i + ((cs.drop i).takeWhile p).length
theorem runEnd_is {p : Int → Bool} {cs : List Int} {i j : Nat} (hij : i ≤ j) (hj : j ≤ cs.length) (h : ∀ k, i ≤ k → k < j → p (cs.getD k 0) = true) (he : j = cs.length ∨ p (cs.getD j 0) = false) : runEnd p cs i = j := by
  unfold runEnd
  induction hd : j - i generalizing i with
  | zero =>
    obtain rfl : i = j := by omega
    rcases he with rfl | he
    · simp
    · by_cases hl : i < cs.length
      · rw [List.drop_eq_getElem_cons hl]
        have : cs.getD i 0 = cs[i] := by simp [List.getD, hl]
        rw [this] at he
        rw [List.takeWhile_cons, if_neg (by rw [he]; decide)]; rfl
      · rw [List.drop_eq_nil_of_le (by omega)]; simp
  | succ n ih =>
    have hl : i < cs.length := by omega
    have hp := h i (Nat.le_refl _) (by omega)
    have e : cs.getD i 0 = cs[i] := by simp [List.getD, hl]
    rw [e] at hp
    rw [List.drop_eq_getElem_cons hl, List.takeWhile_cons, if_pos hp, List.length_cons]
    have := ih (i := i + 1) (by omega) (fun k k1 k2 => h k (by omega) k2) (by omega)
    omega

set_option maxRecDepth 100000 in
set_option maxHeartbeats 1600000 in
theorem run_blank {B : Nat} {w : World} {v : Value} {cs : List Int} (h : RdR B w v cs) (i : Nat) (hi : i ≤ cs.length) :
    Calls Tryz.prog 52 #[v, .int .i64 i, .func (.func 53) #[] #[]] w fun e w' => e = .returned (.int .i64 ((runEnd bl cs i : Nat) : Int)) ∧ w' = w := by
  obtain ⟨a, cap, rfl, h1, h2, h3⟩ := h
  go_enter Tryz.func52, Tryz.ntmps52
  go_wp2
  go_loopw [1] (fun at' wr => ∃ j : Nat, at' = .int .i64 j ∧ i ≤ j ∧ j ≤ cs.length ∧ Hid (∀ k, i ≤ k → k < j → bl (cs.getD k 0) = true) ∧ wr = w) (fun at' _ => cs.length - (intOf at').toNat)
  case atStart => exact ⟨i, rfl, Nat.le_refl _, hi, (fun k k1 k2 => by omega), rfl⟩
  case round =>
    obtain ⟨j, rfl, hij, hj, HJ, rfl⟩ := hrel
    by_cases hlt : j < cs.length
    · rcases h3 with h3 | ⟨b, off, rfl, hb, hc⟩
      · omega
      have hcj := hc j hlt
      clear hc
      generalize hC : cs.getD j 0 = C at *
      cases hp : bl C with
      | true =>
        go_wp2_with fail
        refine (isBlank_any C _).mono ?_
        rintro e w' ⟨rfl, rfl⟩
        rw [hp]
        go_wp2
        go_roundw
        case rel =>
          refine ⟨j + 1, by go_num, by omega, by omega, ?_, by first | trivial | rfl⟩
          intro k k1 k2
          by_cases hk : k = j
          · rw [hk, hC]; exact hp
          · exact HJ.out k k1 (by omega)
        case measure => simp [intOf]; omega
      | false =>
        have HE : Hid (runEnd bl cs i = j) := runEnd_is hij hj HJ.out (Or.inr (by rw [hC]; exact hp))
        go_wp2_with fail
        refine (isBlank_any C _).mono ?_
        rintro e w' ⟨rfl, rfl⟩
        rw [hp]
        go_wp2
        go_ret
        exact ⟨by rw [HE.out]; rfl, by first | trivial | rfl⟩
    · have HE : Hid (runEnd bl cs i = j) := runEnd_is hij hj HJ.out (Or.inl (by omega))
      go_wp2
      go_ret
      exact ⟨by rw [HE.out]; rfl, by first | trivial | rfl⟩

set_option maxRecDepth 100000 in
set_option maxHeartbeats 1600000 in
theorem run_number {B : Nat} {w : World} {v : Value} {cs : List Int} (h : RdR B w v cs) (i : Nat) (hi : i ≤ cs.length) :
    Calls Tryz.prog 52 #[v, .int .i64 i, .func (.func 83) #[] #[]] w fun e w' => e = .returned (.int .i64 ((runEnd inn cs i : Nat) : Int)) ∧ w' = w := by
  obtain ⟨a, cap, rfl, h1, h2, h3⟩ := h
  go_enter Tryz.func52, Tryz.ntmps52
  go_wp2
  go_loopw [1] (fun at' wr => ∃ j : Nat, at' = .int .i64 j ∧ i ≤ j ∧ j ≤ cs.length ∧ Hid (∀ k, i ≤ k → k < j → inn (cs.getD k 0) = true) ∧ wr = w) (fun at' _ => cs.length - (intOf at').toNat)
  case atStart => exact ⟨i, rfl, Nat.le_refl _, hi, (fun k k1 k2 => by omega), rfl⟩
  case round =>
    obtain ⟨j, rfl, hij, hj, HJ, rfl⟩ := hrel
    by_cases hlt : j < cs.length
    · rcases h3 with h3 | ⟨b, off, rfl, hb, hc⟩
      · omega
      have hcj := hc j hlt
      clear hc
      generalize hC : cs.getD j 0 = C at *
      cases hp : inn C with
      | true =>
        go_wp2_with fail
        refine (inNumber_any C _).mono ?_
        rintro e w' ⟨rfl, rfl⟩
        rw [hp]
        go_wp2
        go_roundw
        case rel =>
          refine ⟨j + 1, by go_num, by omega, by omega, ?_, by first | trivial | rfl⟩
          intro k k1 k2
          by_cases hk : k = j
          · rw [hk, hC]; exact hp
          · exact HJ.out k k1 (by omega)
        case measure => simp [intOf]; omega
      | false =>
        have HE : Hid (runEnd inn cs i = j) := runEnd_is hij hj HJ.out (Or.inr (by rw [hC]; exact hp))
        go_wp2_with fail
        refine (inNumber_any C _).mono ?_
        rintro e w' ⟨rfl, rfl⟩
        rw [hp]
        go_wp2
        go_ret
        exact ⟨by rw [HE.out]; rfl, by first | trivial | rfl⟩
    · have HE : Hid (runEnd inn cs i = j) := runEnd_is hij hj HJ.out (Or.inl (by omega))
      go_wp2
      go_ret
      exact ⟨by rw [HE.out]; rfl, by first | trivial | rfl⟩
end Go.Proofs.YtahfllppbfnpfaaGreatDoor

/- Items of numbers, and scalars of them. -/
namespace Go.Proofs.YtahfllppbfnpfaaGreatDoor
set_option linter.unusedVariables false
set_option linter.unusedSimpArgs false
open Go.RowKit

/-- A block of cells. -/
def BoxA (w : World) (B ty : Nat) (xs : Array Value) : Prop := w.heap[B]? = some (.cells xs ty (0, 0))
section
variable {w w' : World} {B ty base : Nat} {xs : Array Value}
theorem boxA_new (w : World) (xs : Array Value) (ty : Nat) : BoxA (w.alloc (.cells xs ty)) w.heap.size ty xs := heap_alloc_new _ _
theorem BoxA.lt (h : BoxA w B ty xs) : B < w.heap.size := by
  unfold BoxA at h
  exact (Array.getElem?_eq_some_iff.1 h).1
theorem BoxA.below (h : BoxA w B ty xs) (hb : Below base w w') (hB : B < base) : BoxA w' B ty xs := by
  unfold BoxA at *
  rw [hb.block B hB]; exact h
theorem BoxA.cell (h : BoxA w B ty xs) (i : Nat) {v : Value} (hv : xs[i]? = some v) : w.cell? ⟨B, i, none⟩ = some v := by
  unfold BoxA at h
  simp [World.cell?, h, hv]
theorem BoxA.frozen (h : BoxA w B ty xs) (i : Nat) : w.frozen? ⟨B, i, none⟩ = false := by
  unfold BoxA at h
  simp [World.frozen?, h]
end
/-- The cells of a number as an item. -/
def numCells (b : Bool) (a1 : Option Addr) (n1 c1 : Nat) (a2 : Option Addr) (n2 c2 : Nat) : Array Value := #[.int .u8 1, .bool b, .slice a1 n1 c1, .slice a2 n2 c2, .int .i32 0, .slice none 0 0]
theorem BoxA.num {w : World} {B ty : Nat} {b : Bool} {a1 a2 : Option Addr} {n1 n2 c1 c2 : Nat} (h : BoxA w B ty #[.int .u8 1, .bool b, .slice a1 n1 c1, .slice a2 n2 c2, .int .i32 0, .slice none 0 0]) :
    w.cell? ⟨B, 0, none⟩ = some (.int .u8 1) ∧ w.cell? ⟨B, 1, none⟩ = some (.bool b) ∧ w.cell? ⟨B, 2, none⟩ = some (.slice a1 n1 c1) ∧ w.cell? ⟨B, 3, none⟩ = some (.slice a2 n2 c2) ∧ w.cell? ⟨B, 4, none⟩ = some (.int .i32 0) ∧ w.cell? ⟨B, 5, none⟩ = some (.slice none 0 0) :=
  ⟨h.cell 0 rfl, h.cell 1 rfl, h.cell 2 rfl, h.cell 3 rfl, h.cell 4 rfl, h.cell 5 rfl⟩

section
variable {w : World} {b : Bool} {a1 a2 : Option Addr} {n1 n2 c1 c2 : Nat}
set_option maxRecDepth 100000 in
set_option maxHeartbeats 1600000 in
theorem number_any :
    Calls Tryz.prog 20 #[.agg #[.bool b, .slice a1 n1 c1, .slice a2 n2 c2]] w fun e w' => e = .returned (.agg #[.int .u8 1, .bool b, .slice a1 n1 c1, .slice a2 n2 c2, .int .i32 0, .slice none 0 0]) ∧ Below w.heap.size w w' := by
  have hb := boxA_new (w.alloc (.cells #[.bool b, .slice a1 n1 c1, .slice a2 n2 c2] 24)) #[.int .u8 1, .bool b, .slice a1 n1 c1, .slice a2 n2 c2, .int .i32 0, .slice none 0 0] 55
  rw [World.size_alloc] at hb
  have g := ((Below.refl w.heap.size w).alloc (Nat.le_refl _) (.cells #[.bool b, .slice a1 n1 c1, .slice a2 n2 c2] 24)).alloc (by simp) (.cells #[.int .u8 1, .bool b, .slice a1 n1 c1, .slice a2 n2 c2, .int .i32 0, .slice none 0 0] 55)
  go_enter Tryz.func20, Tryz.ntmps20
  go_wp2
  obtain ⟨r0, r1, r2, r3, r4, r5⟩ := hb.num
  refine bodyPost_ret (v := .agg #[.int .u8 1, .bool b, .slice a1 n1 c1, .slice a2 n2 c2, .int .i32 0, .slice none 0 0]) (by simp [results, Tryz.results20, go_sem, r0, r1, r2, r3, r4, r5]) rfl ?_
  exact ⟨rfl, g⟩

/-- A scalar of a number: its one item lies in block k. -/
def scalarOf (k : Nat) : Value := .agg #[.slice none 0 0, .slice (some ⟨k, 0, none⟩) 1 1]

set_option maxRecDepth 100000 in
set_option maxHeartbeats 1600000 in
theorem scalar_any :
    Calls Tryz.prog 18 #[.agg #[.int .u8 1, .bool b, .slice a1 n1 c1, .slice a2 n2 c2, .int .i32 0, .slice none 0 0]] w fun e w' => ∃ k, e = .returned (.agg #[.slice none 0 0, .slice (some ⟨k, 0, none⟩) 1 1]) ∧ w.heap.size ≤ k ∧ BoxA w' k 55 #[.int .u8 1, .bool b, .slice a1 n1 c1, .slice a2 n2 c2, .int .i32 0, .slice none 0 0] ∧ Below w.heap.size w w' := by
  have g1 := (Below.refl w.heap.size w).alloc (Nat.le_refl _) (.cells #[.int .u8 1, .bool b, .slice a1 n1 c1, .slice a2 n2 c2, .int .i32 0, .slice none 0 0] 55)
  have g2 := g1.alloc (by simp) (.cells #[.slice none 0 0, .slice (some ⟨w.heap.size + 1 + 1, 0, none⟩) 1 1] 35)
  have g3 := g2.alloc (by simp; omega) (.cells #[.int .u8 1, .bool b, .slice a1 n1 c1, .slice a2 n2 c2, .int .i32 0, .slice none 0 0] 55)
  have hk := boxA_new ((w.alloc (.cells #[.int .u8 1, .bool b, .slice a1 n1 c1, .slice a2 n2 c2, .int .i32 0, .slice none 0 0] 55)).alloc (.cells #[.slice none 0 0, .slice (some ⟨w.heap.size + 1 + 1, 0, none⟩) 1 1] 35)) #[.int .u8 1, .bool b, .slice a1 n1 c1, .slice a2 n2 c2, .int .i32 0, .slice none 0 0] 55
  rw [World.size_alloc, World.size_alloc] at hk
  have hb := boxA_new (w.alloc (.cells #[.int .u8 1, .bool b, .slice a1 n1 c1, .slice a2 n2 c2, .int .i32 0, .slice none 0 0] 55)) #[.slice none 0 0, .slice (some ⟨w.heap.size + 1 + 1, 0, none⟩) 1 1] 35
  have hb2 := hb.below (below_alloc _ (.cells #[.int .u8 1, .bool b, .slice a1 n1 c1, .slice a2 n2 c2, .int .i32 0, .slice none 0 0] 55)) (by simp)
  rw [World.size_alloc] at hb2
  go_enter Tryz.func18, Tryz.ntmps18
  go_wp2
  have r0 := hb2.cell 0 rfl
  have r1 := hb2.cell 1 rfl
  refine bodyPost_ret (v := .agg #[.slice none 0 0, .slice (some ⟨w.heap.size + 1 + 1, 0, none⟩) 1 1]) (by simp [results, Tryz.results18, go_sem, r0, r1]) rfl ?_
  exact ⟨_, rfl, by omega, hk, g3⟩
end

section
variable {w w' : World} {B ty base : Nat} {u0 u1 u2 u3 u4 u5 : Value}
theorem BoxA.set6 (h : BoxA w B ty #[u0, u1, u2, u3, u4, u5]) (v0 v1 v2 v3 v4 v5 : Value) : BoxA ((((((w.setCell ⟨B, 0, none⟩ v0).setCell ⟨B, 1, none⟩ v1).setCell ⟨B, 2, none⟩ v2).setCell ⟨B, 3, none⟩ v3).setCell ⟨B, 4, none⟩ v4).setCell ⟨B, 5, none⟩ v5) B ty #[v0, v1, v2, v3, v4, v5] := by
  unfold BoxA at h ⊢
  simp [World.setCell, Array.getElem?_modify, h]
theorem Below.set6 (h : Below base w w') (hB : base ≤ B) (v0 v1 v2 v3 v4 v5 : Value) : Below base w ((((((w'.setCell ⟨B, 0, none⟩ v0).setCell ⟨B, 1, none⟩ v1).setCell ⟨B, 2, none⟩ v2).setCell ⟨B, 3, none⟩ v3).setCell ⟨B, 4, none⟩ v4).setCell ⟨B, 5, none⟩ v5) :=
  (((((h.setCell (p := ⟨B, 0, none⟩) hB _).setCell (p := ⟨B, 1, none⟩) hB _).setCell (p := ⟨B, 2, none⟩) hB _).setCell (p := ⟨B, 3, none⟩) hB _).setCell (p := ⟨B, 4, none⟩) hB _).setCell (p := ⟨B, 5, none⟩) hB _
theorem Own.set6 {v : Value} {xs : List Int} (h : Own base w v xs) (hB : B < base) (v0 v1 v2 v3 v4 v5 : Value) : Own base ((((((w.setCell ⟨B, 0, none⟩ v0).setCell ⟨B, 1, none⟩ v1).setCell ⟨B, 2, none⟩ v2).setCell ⟨B, 3, none⟩ v3).setCell ⟨B, 4, none⟩ v4).setCell ⟨B, 5, none⟩ v5) v xs := by
  have e : v.ownBlock ≠ some B := ownBlock_ne h hB
  exact (((((h.setCell (a := ⟨B, 0, none⟩) e _).setCell (a := ⟨B, 1, none⟩) e _).setCell (a := ⟨B, 2, none⟩) e _).setCell (a := ⟨B, 3, none⟩) e _).setCell (a := ⟨B, 4, none⟩) e _).setCell (a := ⟨B, 5, none⟩) e _
end

theorem rd_parts' {B : Nat} {w : World} {a : Option Addr} {c : Nat} {xs : List Int} (h : Rd B w (.slice a xs.length c) xs) : (a = none ∧ xs = [] ∧ c = 0) ∨ ∃ ad, a = some ad ∧ ∀ j u, (xs.map (Value.int .u32))[j]? = some u → w.cell? (ad.add j) = some u := by
  obtain ⟨_, a', c', e, h1, h2, h3, h4⟩ := h
  have ea : a' = a ∧ c' = c := by cases e; exact ⟨rfl, rfl⟩
  obtain ⟨rfl, rfl⟩ := ea
  cases a' with
  | none =>
    have := h3 rfl
    subst this
    exact Or.inl ⟨rfl, List.eq_nil_of_length_eq_zero (by omega), rfl⟩
  | some ad =>
    refine Or.inr ⟨ad, rfl, ?_⟩
    rcases h4 with h4 | ⟨b, off, e2, _, hc⟩
    · have : xs = [] := List.eq_nil_of_length_eq_zero h4
      subst this
      intro j u h; simp at h
    · cases e2
      exact cells_news hc
/-- Limbs that are appended to none: their copy. -/
theorem append_nil_list {B : Nat} {w : World} {ops : Array Oper} {rest : List Oper} {o : Oper} {a : Act} {Q : Exit → Act → World → Prop} {a1 : Option Addr} {c1 : Nat} {ns : List Int} (hgd : o.guard = none) (s x : Operand)
    (ho : o.op = .call { callee := .builtin .append, args := #[s, x], argTypes := #[22, 22] }) (hs : a.eval s = .slice none 0 0) (hx : a.eval x = .slice a1 ns.length c1) (hR : Rd B w (.slice a1 ns.length c1) ns) (hl : ns.length * 4 ≤ 140737488355328)
    (h : ∀ x1 y1 w', Own w.heap.size w' (.slice x1 ns.length y1) ns → Below w.heap.size w w' → wpList Tryz.prog ops Q rest (a.put o.dst (.slice x1 ns.length y1)) w') : wpList Tryz.prog ops Q (o :: rest) a w := by
  obtain ⟨i0, hi, hz0, hz1, hz2⟩ := info_parts info_u32
  have hlim := hR.lim
  rcases rd_parts' hR with ⟨rfl, rfl, rfl⟩ | ⟨ad, rfl, hN⟩
  · exact wpList_append_own_none hgd s x 22 ho w.heap.size 71 i0 1 Tryz.underlying22 hi (.slice none 0 0) 0 [] hs (World.ownsRow_nil _ _ _ _) hx (h none 0 w ⟨lim_nil, World.ownsRow_nil _ _ _ _⟩ (Below.refl _ _))
  · refine wpList_append_own _ hgd s x 22 ho w.heap.size 71 i0 (.int .u32 0) 1 4 Tryz.underlying22 hi hz0 hz1 hz2 rfl (by decide) (.slice none 0 0) 0 [] hs (World.ownsRow_nil _ _ _ _) ad ns.length c1 (ns.map (Value.int .u32)) hx (by rw [List.length_map]; omega) hN (ints_oneCell _ _) ?_ ?_ (Nat.le_refl _) ?_
    · unfold maxLen; omega
    · omega
    intro v' w2 hown hgrow _
    rw [Nat.zero_add, List.nil_append] at hown
    have o1 : Own w.heap.size w2 v' ns := ⟨hlim, hown⟩
    obtain ⟨x1, y1, rfl⟩ := o1.form
    exact h x1 y1 w2 o1 ((Below.refl _ _).grown hgrow (Nat.le_refl _) (fun k h => by cases h))

set_option maxRecDepth 100000 in
set_option maxHeartbeats 1600000 in
theorem copyLimbs_any {w : World} {a1 : Option Addr} {c1 : Nat} {ns : List Int} (h1 : Rd w.heap.size w (.slice a1 ns.length c1) ns) (l1 : ns.length * 4 ≤ 140737488355328) :
    Calls Tryz.prog 42 #[.slice a1 ns.length c1] w fun e w' => ∃ x1 y1, e = .returned (.slice x1 ns.length y1) ∧ Own w.heap.size w' (.slice x1 ns.length y1) ns ∧ Below w.heap.size w w' := by
  go_enter Tryz.func42, Tryz.ntmps42
  go_wp2_with (at_builtin; refine append_nil_list rfl _ _ rfl rfl rfl h1 l1 ?_)
  intro x1 y1 w2 o1 k1
  go_wp2
  go_ret
  exact ⟨x1, y1, rfl, o1, k1⟩
end Go.Proofs.YtahfllppbfnpfaaGreatDoor

/- rat.wholeNextTo, rat.Floor: the whole numbers next to a number. -/
namespace Go.Proofs.YtahfllppbfnpfaaGreatDoor
set_option linter.unusedVariables false
set_option linter.unusedSimpArgs false
open Go.RowKit

/-- A result's variable. -/
structure RVar (w : World) (k : Nat) : Prop where
  lt : k < w.heap.size
  box : Box3 w k 24 (.bool false) (.slice none 0 0) (.slice none 0 0)
theorem RVar.below {w w' : World} {k : Nat} (h : RVar w k) (hb : Below w.heap.size w w') : RVar w' k := ⟨Nat.lt_of_lt_of_le h.lt hb.size, h.box.below hb h.lt⟩
theorem rvar_new (w : World) : RVar (w.alloc (.cells #[.bool false, .slice none 0 0, .slice none 0 0] 24)) w.heap.size := ⟨by simp, box3_new _ _ _ _ _⟩

/-- The size of the whole number next to a number: further away from 0, or nearer. -/
def wholeM (f : Bool) (n d : Int) : Int := n / d + if f = true ∧ ¬ n % d = 0 then 1 else 0

theorem div_unique {n d q r : Int} (h : n = q * d + r) (h0 : 0 ≤ r) (h1 : r < d) : q = n / d ∧ r = n % d := by
  have hd : 0 < d := by omega
  have e1 : n / d = q := by
    rw [h, Int.add_comm, Int.add_mul_ediv_right _ _ (by omega), Int.ediv_eq_zero_of_lt h0 h1]
    omega
  refine ⟨e1.symm, ?_⟩
  have e2 := Int.emod_def n d
  rw [e1] at e2
  rw [e2, h, Int.mul_comm d]
  omega

theorem floor_whole (b : Bool) (n d : Int) (hn : 0 ≤ n) (hd : 0 < d) : sg b (wholeM b n d) = sg b n / d := by
  have hm0 := Int.emod_nonneg n (show d ≠ 0 by omega)
  have hm1 := Int.emod_lt_of_pos n hd
  have he : n / d * d + n % d = n := by rw [Int.mul_comm]; exact Int.mul_ediv_add_emod n d
  unfold wholeM sg
  cases b with
  | false => simp
  | true =>
    by_cases h0 : n % d = 0
    · simp only [h0, not_true_eq_false, and_false, if_false, if_true, Int.add_zero]
      exact (div_unique (r := 0) (by rw [Int.neg_mul]; omega) (by omega) hd).1
    · simp only [h0, not_false_eq_true, and_true, if_true]
      refine (div_unique (r := d - n % d) ?_ (by omega) (by omega)).1
      rw [Int.neg_mul, Int.add_mul]
      omega

theorem one_val : val [(1 : Int)] = 1 := by decide
theorem can_add_one {q r : List Int} (c : can r) : (0 < r.length ↔ ¬ val r = 0) := by
  have := can_zero c
  omega

section
variable {B : Nat} {w : World} {bx : Bool} {a1 a2 : Option Addr} {c1 c2 : Nat} {xn xd : List Int}

end
end Go.Proofs.YtahfllppbfnpfaaGreatDoor

/- rat.OfInt at every int. -/
namespace Go.Proofs.YtahfllppbfnpfaaGreatDoor
set_option linter.unusedVariables false
set_option linter.unusedSimpArgs false
open Go.RowKit

theorem of_can (n : Int) (h0 : 0 ≤ n) (h1 : n < 18446744073709551616) : can (tr [n % 4294967296, n / 4294967296]) ∧ val (tr [n % 4294967296, n / 4294967296]) = n ∧ (tr [n % 4294967296, n / 4294967296]).length ≤ 2 := by
  refine ⟨tr_can (fun x hx => by simp at hx; omega), ?_, ?_⟩
  · rw [val_tr]; simp [val]; omega
  · have := tr_length_le [n % 4294967296, n / 4294967296]
    simpa using this
theorem of_num (n : Int) (h0 : 0 ≤ n) (h1 : n < 18446744073709551616) (w : World) : Calls Tryz.prog 43 #[.int .u64 n] w fun e w' => ∃ ns, can ns ∧ Hid (val ns = n) ∧ ns.length ≤ 2 ∧ Makes w e w' ns := by
  refine (of_any n h0 h1 w).mono ?_
  intro e w' h
  have hc := of_can n h0 h1
  exact ⟨_, hc.1, hc.2.1, hc.2.2, h⟩

/-- A whole number as a number. -/
def WholeIs (k : Int) (b : Bool) (ns ds : List Int) : Prop := b = decide (k < 0) ∧ can ns ∧ val ns = (if k < 0 then -k else k) ∧ ns.length ≤ 2 ∧ ds = [1]
theorem WholeIs.right {k : Int} {b : Bool} {ns ds : List Int} (h : WholeIs k b ns ds) : RightP b ns ds := by
  obtain ⟨rfl, cn, vn, ln, rfl⟩ := h
  refine ⟨by omega, by simp, cn, can_one, ?_, by simp, by rw [one_val]; exact gI_one_right _⟩
  rintro ⟨hb, hz⟩
  rw [(can_zero cn).1 hz] at vn
  rw [decide_eq_true_iff] at hb
  rw [if_pos hb] at vn
  omega
theorem WholeIs.sg {k : Int} {b : Bool} {ns ds : List Int} (h : WholeIs k b ns ds) : sg b (val ns) = k ∧ val ds = 1 := by
  obtain ⟨rfl, cn, vn, ln, rfl⟩ := h
  refine ⟨?_, one_val⟩
  rw [vn]
  by_cases hk : k < 0
  · rw [decide_eq_true hk, if_pos hk]; simp [Go.Proofs.YtahfllppbfnpfaaGreatDoor.sg]
  · rw [decide_eq_false hk, if_neg hk]; rfl
/-- A whole number's answer. -/
def WholeNum (w : World) (k : Int) (e : Ending) (w' : World) : Prop :=
  Below w.heap.size w w' ∧ ∃ b ns ds a1 c1 a2 c2, Hid (WholeIs k b ns ds) ∧ e = .returned (.agg #[.bool b, .slice a1 ns.length c1, .slice a2 ds.length c2]) ∧ Own w.heap.size w' (.slice a1 ns.length c1) ns ∧ Own w.heap.size w' (.slice a2 ds.length c2) ds

set_option maxRecDepth 100000 in
set_option maxHeartbeats 3200000 in
theorem ofInt_any (k : Int) (h0 : -9223372036854775808 ≤ k) (h1 : k < 9223372036854775808) (w : World) : Calls Tryz.prog 21 #[.int .i64 k] w fun e w' => WholeNum w k e w' := by
  have R := rvar_new w
  have g := below_alloc w (.cells #[.bool false, .slice none 0 0, .slice none 0 0] 24)
  go_enter Tryz.func21, Tryz.ntmps21
  by_cases hk : k < 0
  · have hkb : decide (k < 0) = true := decide_eq_true hk
    have hw : IntKind.u64.wrap (-IntKind.u64.wrap k) = -k := by rw [IntKind.wrap_u64, IntKind.wrap_u64]; omega
    go_wp2_with fail
    generalize hA : w.alloc (.cells #[.bool false, .slice none 0 0, .slice none 0 0] 24) = v at *
    clear hA
    refine (of_num (-k) (by omega) (by omega) _).mono ?_
    rintro e wa ⟨ns, cn, vn, ln, x1, y1, rfl, o1, ka⟩
    go_wp2_with fail
    refine (one_any _).mono ?_
    rintro e wb ⟨x2, y2, hb, o2, kb⟩
    obtain ⟨ds, hds⟩ : ∃ ds : List Int, ds = [1] := ⟨_, rfl⟩
    rw [← hds] at hb o2
    subst hb
    have HD : Hid (ds = [1]) := hds
    clear hds
    have t : Below v.heap.size v wb := ka.trans (kb.mono ka.size)
    have Rb := R.below t
    have q0 := Rb.box.c0
    have q1 := Rb.box.c1
    have q2 := Rb.box.c2
    have p0 := Rb.box.f0
    have p1 := Rb.box.f1
    have p2 := Rb.box.f2
    go_wp2
    have hR3 := Rb.box.set (.bool true) (.slice x1 ns.length y1) (.slice x2 ds.length y2)
    have r0 := hR3.c0
    have r1 := hR3.c1
    have r2 := hR3.c2
    refine bodyPost_ret (v := .agg #[.bool true, .slice x1 ns.length y1, .slice x2 ds.length y2]) (by simp [results, Tryz.results21, go_sem, r0, r1, r2]) rfl ?_
    exact ⟨Below.set3 (g.trans (t.mono g.size)) (Nat.le_refl _) _ _ _, true, ns, ds, x1, y1, x2, y2, ⟨hkb.symm, cn, by rw [vn.out, if_pos hk], ln, HD.out⟩, rfl, (Own.set3 (o1.below kb (Nat.le_refl _)) R.lt _ _ _).mono g.size, (Own.set3 (o2.mono ka.size) R.lt _ _ _).mono g.size⟩
  · have hkb : decide (k < 0) = false := decide_eq_false hk
    go_wp2_with fail
    generalize hA : w.alloc (.cells #[.bool false, .slice none 0 0, .slice none 0 0] 24) = v at *
    clear hA
    refine (of_num k (by omega) (by omega) _).mono ?_
    rintro e wa ⟨ns, cn, vn, ln, x1, y1, rfl, o1, ka⟩
    go_wp2_with fail
    refine (one_any _).mono ?_
    rintro e wb ⟨x2, y2, hb, o2, kb⟩
    obtain ⟨ds, hds⟩ : ∃ ds : List Int, ds = [1] := ⟨_, rfl⟩
    rw [← hds] at hb o2
    subst hb
    have HD : Hid (ds = [1]) := hds
    clear hds
    have t : Below v.heap.size v wb := ka.trans (kb.mono ka.size)
    have Rb := R.below t
    have q0 := Rb.box.c0
    have q1 := Rb.box.c1
    have q2 := Rb.box.c2
    have p0 := Rb.box.f0
    have p1 := Rb.box.f1
    have p2 := Rb.box.f2
    go_wp2
    have hR3 := Rb.box.set (.bool false) (.slice x1 ns.length y1) (.slice x2 ds.length y2)
    have r0 := hR3.c0
    have r1 := hR3.c1
    have r2 := hR3.c2
    refine bodyPost_ret (v := .agg #[.bool false, .slice x1 ns.length y1, .slice x2 ds.length y2]) (by simp [results, Tryz.results21, go_sem, r0, r1, r2]) rfl ?_
    exact ⟨Below.set3 (g.trans (t.mono g.size)) (Nat.le_refl _) _ _ _, false, ns, ds, x1, y1, x2, y2, ⟨hkb.symm, cn, by rw [vn.out, if_neg (by omega)], ln, HD.out⟩, rfl, (Own.set3 (o1.below kb (Nat.le_refl _)) R.lt _ _ _).mono g.size, (Own.set3 (o2.mono ka.size) R.lt _ _ _).mono g.size⟩
end Go.Proofs.YtahfllppbfnpfaaGreatDoor

/- array.copyOf of a number, array.Rat, array.Int. -/
namespace Go.Proofs.YtahfllppbfnpfaaGreatDoor
set_option linter.unusedVariables false
set_option linter.unusedSimpArgs false
open Go.RowKit

section
variable {w : World} {b : Bool} {a1 a2 : Option Addr} {c1 c2 : Nat} {ns ds : List Int}
set_option maxRecDepth 100000 in
set_option maxHeartbeats 16000000 in
theorem copyOf_num (h1 : Rd w.heap.size w (.slice a1 ns.length c1) ns) (h2 : Rd w.heap.size w (.slice a2 ds.length c2) ds) (l1 : ns.length * 4 ≤ 140737488355328) (l2 : ds.length * 4 ≤ 140737488355328) :
    Calls Tryz.prog 19 #[.agg #[.int .u8 1, .bool b, .slice a1 ns.length c1, .slice a2 ds.length c2, .int .i32 0, .slice none 0 0]] w fun e w' => ∃ x1 y1 x2 y2, e = .returned (.agg #[.int .u8 1, .bool b, .slice x1 ns.length y1, .slice x2 ds.length y2, .int .i32 0, .slice none 0 0]) ∧ Own w.heap.size w' (.slice x1 ns.length y1) ns ∧ Own w.heap.size w' (.slice x2 ds.length y2) ds ∧ Below w.heap.size w w' := by
  have X0 := boxA_new w #[.int .u8 1, .bool b, .slice a1 ns.length c1, .slice a2 ds.length c2, .int .i32 0, .slice none 0 0] 55
  have k0 := below_alloc w (.cells #[.int .u8 1, .bool b, .slice a1 ns.length c1, .slice a2 ds.length c2, .int .i32 0, .slice none 0 0] 55)
  have k1 := below_alloc (w.alloc (.cells #[.int .u8 1, .bool b, .slice a1 ns.length c1, .slice a2 ds.length c2, .int .i32 0, .slice none 0 0] 55)) (.cells #[.int .u8 0, .bool false, .slice none 0 0, .slice none 0 0, .int .i32 0, .slice none 0 0] 55)
  have R := boxA_new (w.alloc (.cells #[.int .u8 1, .bool b, .slice a1 ns.length c1, .slice a2 ds.length c2, .int .i32 0, .slice none 0 0] 55)) #[.int .u8 0, .bool false, .slice none 0 0, .slice none 0 0, .int .i32 0, .slice none 0 0] 55
  rw [World.size_alloc] at R
  have X := X0.below k1 (by simp)
  have g : Below w.heap.size w _ := k0.trans (k1.mono (by simp))
  have sv : ((w.alloc (.cells #[.int .u8 1, .bool b, .slice a1 ns.length c1, .slice a2 ds.length c2, .int .i32 0, .slice none 0 0] 55)).alloc (.cells #[.int .u8 0, .bool false, .slice none 0 0, .slice none 0 0, .int .i32 0, .slice none 0 0] 55)).heap.size = w.heap.size + 1 + 1 := by simp
  replace h1 := h1.below g
  replace h2 := h2.below g
  obtain ⟨X0', X1, X2, X3, X4, X5⟩ := X.num
  go_enter Tryz.func19, Tryz.ntmps19
  go_upto_region 6 with fail
  generalize hA : (w.alloc (.cells #[.int .u8 1, .bool b, .slice a1 ns.length c1, .slice a2 ds.length c2, .int .i32 0, .slice none 0 0] 55)).alloc (.cells #[.int .u8 0, .bool false, .slice none 0 0, .slice none 0 0, .int .i32 0, .slice none 0 0] 55) = v at *
  clear hA k0 k1 X0
  have hcells : ∀ {w' : World}, Below v.heap.size v w' → w'.cell? ⟨w.heap.size, 1, none⟩ = some (.bool b) ∧ w'.cell? ⟨w.heap.size, 2, none⟩ = some (.slice a1 ns.length c1) ∧ w'.cell? ⟨w.heap.size, 3, none⟩ = some (.slice a2 ds.length c2) := fun hb => by
    obtain ⟨_, q1, q2, q3, _, _⟩ := (X.below hb (by omega)).num
    exact ⟨q1, q2, q3⟩
  have d0 : Below v.heap.size v v.drew := ⟨rfl, rfl, rfl, Nat.le_refl _, fun _ _ => rfl⟩
  have h1' : Rd v.drew.heap.size v.drew (.slice a1 ns.length c1) ns := h1.mono (by simp; omega)
  have h2' : Rd v.heap.size v (.slice a2 ds.length c2) ds := h2.mono (by omega)
  go_region_held3 (fun w' => w'.cell? ⟨w.heap.size, 1, none⟩ = some (.bool b) ∧ w'.cell? ⟨w.heap.size, 2, none⟩ = some (.slice a1 ns.length c1) ∧ w'.cell? ⟨w.heap.size, 3, none⟩ = some (.slice a2 ds.length c2))
    (first | (go_keep; done) | exact tw | exact tw2 | exact tw3)
    (first
      | (have j := tw2; go_at_call 20; refine number_any.mono ?_; rintro e wc ⟨rfl, kc⟩; have tc : Below v.heap.size v wc := tb.trans (kc.mono tb.size); have tw3 := hcells tc; have Rc := R.below tc (by omega); have q0 := Rc.cell 0 rfl; have q1 := Rc.cell 1 rfl; have q2 := Rc.cell 2 rfl; have q3 := Rc.cell 3 rfl; have q4 := Rc.cell 4 rfl; have q5 := Rc.cell 5 rfl; have p0 := Rc.frozen 0; have p1 := Rc.frozen 1; have p2 := Rc.frozen 2; have p3 := Rc.frozen 3; have p4 := Rc.frozen 4; have p5 := Rc.frozen 5)
      | (have j := tw; go_at_call 42; refine (copyLimbs_any ((h2'.below ka).mono ka.size) l2).mono ?_; rintro e wb ⟨x2, y2, rfl, o2, kb⟩; have tb : Below v.heap.size v wb := ka.trans (kb.mono ka.size); have tw2 := hcells tb; have o1b := o1.below kb (Nat.le_refl _))
      | (go_at_call 42; refine (copyLimbs_any h1' l1).mono ?_; rintro e wa ⟨x1, y1, rfl, o1, ka'⟩; have ka : Below v.heap.size v wa := d0.trans (ka'.mono d0.size); have tw := hcells ka))
  all_goals
    go_wp2
    have Rd6 := Rc.set6 (.int .u8 1) (.bool b) (.slice x1 ns.length y1) (.slice x2 ds.length y2) (.int .i32 0) (.slice none 0 0)
    obtain ⟨r0, r1, r2, r3, r4, r5⟩ := Rd6.num
    refine bodyPost_ret (v := .agg #[.int .u8 1, .bool b, .slice x1 ns.length y1, .slice x2 ds.length y2, .int .i32 0, .slice none 0 0]) (by simp [results, Tryz.results19, go_sem, r0, r1, r2, r3, r4, r5]) rfl ?_
    refine ⟨x1, y1, x2, y2, rfl, ?_, ?_, Below.set6 (g.trans (tc.mono (by omega))) (by omega) _ _ _ _ _ _⟩
    · exact (((o1b.below kc (Nat.le_refl _)).mono (base' := v.heap.size) (by simp)).set6 (by omega) _ _ _ _ _ _).mono (by omega)
    · exact (((o2.below kc (Nat.le_refl _)).mono (base' := v.heap.size) ka.size).set6 (by omega) _ _ _ _ _ _).mono (by omega)
end
end Go.Proofs.YtahfllppbfnpfaaGreatDoor

/- array.Rat and array.Int: scalars of numbers. -/
namespace Go.Proofs.YtahfllppbfnpfaaGreatDoor
set_option linter.unusedVariables false
set_option linter.unusedSimpArgs false
open Go.RowKit

/-- In block k lies an item: a number whose limbs are the call's own. -/
def NumAt (base : Nat) (w : World) (k : Nat) (b : Bool) (ns ds : List Int) : Prop :=
  base ≤ k ∧ ∃ x1 y1 x2 y2, BoxA w k 55 #[.int .u8 1, .bool b, .slice x1 ns.length y1, .slice x2 ds.length y2, .int .i32 0, .slice none 0 0] ∧ Own base w (.slice x1 ns.length y1) ns ∧ Own base w (.slice x2 ds.length y2) ds
section
variable {w w' : World} {base base' B k R : Nat} {b : Bool} {ns ds : List Int}
theorem NumAt.lt (h : NumAt base w k b ns ds) : k < w.heap.size := by
  obtain ⟨_, _, _, _, _, h, _⟩ := h
  exact h.lt
theorem NumAt.below (h : NumAt base w k b ns ds) (hb : Below B w w') (hB : w.heap.size ≤ B) : NumAt base w' k b ns ds := by
  obtain ⟨h0, x1, y1, x2, y2, h1, h2, h3⟩ := h
  exact ⟨h0, x1, y1, x2, y2, h1.below hb (Nat.lt_of_lt_of_le h1.lt hB), h2.below hb hB, h3.below hb hB⟩
theorem NumAt.mono (h : NumAt base w k b ns ds) (hB : base' ≤ base) : NumAt base' w k b ns ds := by
  obtain ⟨h0, x1, y1, x2, y2, h1, h2, h3⟩ := h
  exact ⟨Nat.le_trans hB h0, x1, y1, x2, y2, h1, h2.mono hB, h3.mono hB⟩
theorem BoxA.other {ty : Nat} {xs : Array Value} {p : Addr} (h : BoxA w k ty xs) (hp : p.block ≠ k) (v : Value) : BoxA (w.setCell p v) k ty xs := by
  unfold BoxA at *
  have hne : ¬ p.block = k := hp
  simp [World.setCell, Array.getElem?_modify, hne, h]
theorem NumAt.set2 (h : NumAt base w k b ns ds) (hR : R < base) (u v : Value) : NumAt base ((w.setCell ⟨R, 0, none⟩ u).setCell ⟨R, 1, none⟩ v) k b ns ds := by
  obtain ⟨h0, x1, y1, x2, y2, h1, h2, h3⟩ := h
  have hne : R ≠ k := by omega
  refine ⟨h0, x1, y1, x2, y2, (h1.other (p := ⟨R, 0, none⟩) hne _).other (p := ⟨R, 1, none⟩) hne _, ?_, ?_⟩
  · exact (h2.setCell (a := ⟨R, 0, none⟩) (ownBlock_ne h2 hR) _).setCell (a := ⟨R, 1, none⟩) (ownBlock_ne h2 hR) _
  · exact (h3.setCell (a := ⟨R, 0, none⟩) (ownBlock_ne h3 hR) _).setCell (a := ⟨R, 1, none⟩) (ownBlock_ne h3 hR) _
theorem BoxA.set2 {ty : Nat} {u0 u1 : Value} (h : BoxA w R ty #[u0, u1]) (u v : Value) : BoxA ((w.setCell ⟨R, 0, none⟩ u).setCell ⟨R, 1, none⟩ v) R ty #[u, v] := by
  unfold BoxA at h ⊢
  simp [World.setCell, Array.getElem?_modify, h]
theorem Below.set2 (h : Below base w w') (hB : base ≤ R) (u v : Value) : Below base w ((w'.setCell ⟨R, 0, none⟩ u).setCell ⟨R, 1, none⟩ v) :=
  (h.setCell (p := ⟨R, 0, none⟩) hB _).setCell (p := ⟨R, 1, none⟩) hB _
end

theorem ofInt_zero_is {b : Bool} {ns ds : List Int} (h : WholeIs 0 b ns ds) : b = false ∧ ns = [] ∧ ds = [1] := by
  obtain ⟨hb, cn, vn, _, hd⟩ := h
  exact ⟨by rw [hb]; decide, List.eq_nil_of_length_eq_zero ((can_zero cn).2 (by rw [vn]; decide)), hd⟩
/-- A scalar of a number is answered. -/
def ScalarAns (w : World) (b : Bool) (ns ds : List Int) (e : Ending) (w' : World) : Prop :=
  ∃ k, e = .returned (.agg #[.slice none 0 0, .slice (some ⟨k, 0, none⟩) 1 1]) ∧ NumAt w.heap.size w' k b ns ds ∧ Below w.heap.size w w'

set_option maxRecDepth 100000 in
set_option maxHeartbeats 6400000 in
theorem arrInt_zero (w : World) : Calls Tryz.prog 9 #[.int .i64 0] w fun e w' => ScalarAns w false [] [1] e w' := by
  have R := boxA_new w #[.slice none 0 0, .slice none 0 0] 35
  have g := below_alloc w (.cells #[.slice none 0 0, .slice none 0 0] 35)
  have s0 : w.heap.size < (w.alloc (.cells #[.slice none 0 0, .slice none 0 0] 35)).heap.size := by simp
  go_enter Tryz.func9, Tryz.ntmps9
  go_wp2_with fail
  generalize hA : w.alloc (.cells #[.slice none 0 0, .slice none 0 0] 35) = v at *
  clear hA
  refine (ofInt_any 0 (by decide) (by decide) _).mono ?_
  rintro e w1 ⟨k1, bo, on, od, o1, o2, o3, o4, HO, rfl, oo, oe⟩
  go_wp2_with fail
  refine number_any.mono ?_
  rintro e w2 ⟨rfl, k2⟩
  have s1 := k1.size
  have t2 : Below v.heap.size v w2 := k1.trans (k2.mono s1)
  have p1 := oo.below k2 (Nat.le_refl _)
  have p2 := oe.below k2 (Nat.le_refl _)
  go_wp2_with fail
  refine scalar_any.mono ?_
  rintro e w3 ⟨k, rfl, hk, hB, k3⟩
  have s2 := t2.size
  have t3 : Below v.heap.size v w3 := t2.trans (k3.mono s2)
  have hN : NumAt v.heap.size w3 k bo on od := ⟨by omega, _, _, _, _, hB, p1.below k3 (Nat.le_refl _), p2.below k3 (Nat.le_refl _)⟩
  have HN : Hid (NumAt v.heap.size w3 k false [] [1]) := by
    obtain ⟨rfl, rfl, rfl⟩ : bo = false ∧ on = [] ∧ od = [1] := ofInt_zero_is HO.out
    exact hN
  clear hN HO
  have R3 := R.below t3 s0
  have q0 := R3.cell 0 rfl
  have q1 := R3.cell 1 rfl
  have f0 := R3.frozen 0
  have f1 := R3.frozen 1
  go_wp2
  have R4 := R3.set2 (.slice none 0 0) (.slice (some ⟨k, 0, none⟩) 1 1)
  have r0 := R4.cell 0 rfl
  have r1 := R4.cell 1 rfl
  refine bodyPost_ret (v := .agg #[.slice none 0 0, .slice (some ⟨k, 0, none⟩) 1 1]) (by simp [results, Tryz.results9, go_sem, r0, r1]) rfl ?_
  exact ⟨k, rfl, (HN.out.set2 s0 _ _).mono (by omega), Below.set2 (g.trans (t3.mono (by omega))) (Nat.le_refl _) _ _⟩

set_option maxRecDepth 100000 in
set_option maxHeartbeats 6400000 in
theorem arrRat_any {w : World} {b : Bool} {a1 a2 : Option Addr} {c1 c2 : Nat} {ns ds : List Int} (h1 : Rd w.heap.size w (.slice a1 ns.length c1) ns) (h2 : Rd w.heap.size w (.slice a2 ds.length c2) ds) :
    Calls Tryz.prog 8 #[.agg #[.bool b, .slice a1 ns.length c1, .slice a2 ds.length c2]] w fun e w' => (RightP b ns ds ∧ ScalarAns w b ns ds e w') ∨ (¬ RightP b ns ds ∧ ScalarAns w false [] [1] e w') := by
  have X := nvar_new (b := b) h1 h2
  have g0 := below_alloc w (.cells #[.bool b, .slice a1 ns.length c1, .slice a2 ds.length c2] 24)
  have k0 := below_alloc (w.alloc (.cells #[.bool b, .slice a1 ns.length c1, .slice a2 ds.length c2] 24)) (.cells #[.slice none 0 0, .slice none 0 0] 35)
  have R := boxA_new (w.alloc (.cells #[.bool b, .slice a1 ns.length c1, .slice a2 ds.length c2] 24)) #[.slice none 0 0, .slice none 0 0] 35
  rw [World.size_alloc] at R
  have s0 : w.heap.size + 1 < ((w.alloc (.cells #[.bool b, .slice a1 ns.length c1, .slice a2 ds.length c2] 24)).alloc (.cells #[.slice none 0 0, .slice none 0 0] 35)).heap.size := by simp
  replace X := X.below k0
  have g := g0.trans (k0.mono (by simp))
  clear h1 h2 g0 k0
  obtain ⟨X0, X1, X2⟩ := X.cells
  go_enter Tryz.func8, Tryz.ntmps8
  go_wp2_with fail
  clear X0 X1 X2
  generalize hA : (w.alloc (.cells #[.bool b, .slice a1 ns.length c1, .slice a2 ds.length c2] 24)).alloc (.cells #[.slice none 0 0, .slice none 0 0] 35) = v at *
  clear hA
  refine (right_rat X.rn X.rd (Nat.le_refl _)).mono ?_
  rintro e w1 ⟨⟨r, rfl, hr⟩, k1⟩
  replace X := X.below k1
  have s1 := k1.size
  cases r with
  | false =>
    have HP : Hid (¬ RightP b ns ds) := fun h => by have := hr.2 h; cases this
    clear hr
    go_wp2_with fail
    refine (arrInt_zero _).mono ?_
    rintro e w2 ⟨k, rfl, hN, k2⟩
    have t2 : Below v.heap.size v w2 := k1.trans (k2.mono s1)
    have R3 := R.below t2 s0
    have q0 := R3.cell 0 rfl
    have q1 := R3.cell 1 rfl
    have f0 := R3.frozen 0
    have f1 := R3.frozen 1
    go_wp2
    have R4 := R3.set2 (.slice none 0 0) (.slice (some ⟨k, 0, none⟩) 1 1)
    have r0 := R4.cell 0 rfl
    have r1 := R4.cell 1 rfl
    refine bodyPost_ret (v := .agg #[.slice none 0 0, .slice (some ⟨k, 0, none⟩) 1 1]) (by simp [results, Tryz.results8, go_sem, r0, r1]) rfl ?_
    exact Or.inr ⟨HP.out, k, rfl, (hN.set2 (by omega) _ _).mono (by omega), Below.set2 (g.trans (t2.mono g.size)) (by omega) _ _⟩
  | true =>
    have HP : Hid (RightP b ns ds) := hr.1 rfl
    have l1 : ns.length * 4 ≤ 140737488355328 := by have := HP.out.1; omega
    have l2 : ds.length * 4 ≤ 140737488355328 := by have := HP.out.2.1; omega
    clear hr
    obtain ⟨X0, X1, X2⟩ := X.cells
    go_wp2_with fail
    clear X0 X1 X2
    refine number_any.mono ?_
    rintro e w2 ⟨rfl, k2⟩
    replace X := X.below k2
    have s2 := k2.size
    go_wp2_with fail
    refine (copyOf_num X.rn X.rd l1 l2).mono ?_
    rintro e w3 ⟨x1, y1, x2, y2, rfl, p1, p2, k3⟩
    have s3 := k3.size
    go_wp2_with fail
    refine scalar_any.mono ?_
    rintro e w4 ⟨k, rfl, hk, hB, k4⟩
    have t4 : Below v.heap.size v w4 := ((k1.trans (k2.mono s1)).trans (k3.mono (by omega))).trans (k4.mono (by omega))
    have hN : NumAt w2.heap.size w4 k b ns ds := ⟨by omega, _, _, _, _, hB, p1.below k4 (Nat.le_refl _), p2.below k4 (Nat.le_refl _)⟩
    have R3 := R.below t4 s0
    have q0 := R3.cell 0 rfl
    have q1 := R3.cell 1 rfl
    have f0 := R3.frozen 0
    have f1 := R3.frozen 1
    go_wp2
    have R4 := R3.set2 (.slice none 0 0) (.slice (some ⟨k, 0, none⟩) 1 1)
    have r0 := R4.cell 0 rfl
    have r1 := R4.cell 1 rfl
    refine bodyPost_ret (v := .agg #[.slice none 0 0, .slice (some ⟨k, 0, none⟩) 1 1]) (by simp [results, Tryz.results8, go_sem, r0, r1]) rfl ?_
    exact Or.inl ⟨HP.out, k, rfl, (hN.set2 (by omega) _ _).mono (by have := g.size; omega), Below.set2 (g.trans (t4.mono g.size)) (by omega) _ _⟩
end Go.Proofs.YtahfllppbfnpfaaGreatDoor

/- slices.Equal of limbs that read the same; of two nil shapes. -/
namespace Go.Proofs.YtahfllppbfnpfaaGreatDoor
set_option linter.unusedVariables false
set_option linter.unusedSimpArgs false
open Go.RowKit

set_option maxHeartbeats 1600000 in
theorem equal_walk (b1 o1 c1 b2 o2 c2 n : Nat) (xs : List Int) (w : World) (hb : n ≤ 9223372036854775807)
    (k1 : ∀ j, j < n → w.cell? ⟨b1, o1 + j, none⟩ = some (.int .u32 (xs.getD j 0)))
    (k2 : ∀ j, j < n → w.cell? ⟨b2, o2 + j, none⟩ = some (.int .u32 (xs.getD j 0))) :
    Calls Tryz.prog 70 #[.slice (some ⟨b1, o1, none⟩) n c1, .slice (some ⟨b2, o2, none⟩) n c2] w fun e w' => e = .returned (.bool true) ∧ ∃ q, w' = w.drewN q := by
  have K1 : Hid (∀ j, j < n → w.cell? ⟨b1, o1 + j, none⟩ = some (.int .u32 (xs.getD j 0))) := k1
  have K2 : Hid (∀ j, j < n → w.cell? ⟨b2, o2 + j, none⟩ = some (.int .u32 (xs.getD j 0))) := k2
  clear k1 k2
  go_enter Tryz.func70, Tryz.ntmps70
  go_wp2
  go_loopw [13] (fun s wr => (∃ q, wr = w.drewN q) ∧ ∃ j : Nat, j ≤ n ∧ s = .int .i64 j) (fun s _ => n - (intOf s).toNat)
  case atStart => exact ⟨⟨0, rfl⟩, 0, Nat.zero_le _, rfl⟩
  case round =>
    obtain ⟨⟨q, rfl⟩, j, hj, rfl⟩ := hrel
    by_cases hlt : j < n
    · have g1 := K1.out j hlt
      have g2 := K2.out j hlt
      generalize xs.getD j 0 = p at *
      go_wp2
      go_quiet (fail)
      go_wp2
      go_roundw
      case rel => exact ⟨⟨_, rfl⟩, j + 1, by omega, by go_num⟩
      case measure => simp [intOf]; omega
    · go_wp2
      go_ret
      exact ⟨rfl, _, rfl⟩

theorem equal_nil (a1 a2 : Option Addr) (c1 c2 : Nat) (w : World) :
    Calls Tryz.prog 70 #[.slice a1 0 c1, .slice a2 0 c2] w fun e w' => e = .returned (.bool true) ∧ w = w' := by
  go_enter Tryz.func70, Tryz.ntmps70
  go_wp2
  go_loopw [13] (fun s wr => wr = w ∧ s = .int .i64 0) (fun _ _ => 0)
  case atStart => exact ⟨rfl, rfl⟩
  case round =>
    obtain ⟨rfl, rfl⟩ := hrel
    go_wp2
    go_ret
    exact ⟨rfl, rfl⟩

theorem equal_rd {B B' : Nat} {w : World} {v1 v2 : Value} {xs : List Int} (h1 : Rd B w v1 xs) (h2 : Rd B' w v2 xs) :
    Calls Tryz.prog 70 #[v1, v2] w fun e w' => e = .returned (.bool true) ∧ Below w.heap.size w w' := by
  obtain ⟨_, a1, c1, rfl, i1, j1, _, f1⟩ := h1
  obtain ⟨_, a2, c2, rfl, i2, j2, _, f2⟩ := h2
  by_cases h0 : xs.length = 0
  · rw [h0]
    refine (equal_nil a1 a2 c1 c2 w).mono ?_
    rintro e w' ⟨rfl, rfl⟩
    exact ⟨rfl, Below.refl _ _⟩
  · rcases f1 with f1 | ⟨b1, o1, rfl, _, k1⟩
    · exact absurd f1 h0
    rcases f2 with f2 | ⟨b2, o2, rfl, _, k2⟩
    · exact absurd f2 h0
    refine (equal_walk b1 o1 c1 b2 o2 c2 xs.length xs w (by omega) k1 k2).mono ?_
    rintro e w' ⟨rfl, q, rfl⟩
    exact ⟨rfl, below_drewN' (Below.refl _ _) q⟩

theorem equal_shape (a1 a2 : Option Addr) (c1 c2 : Nat) (w : World) :
    Calls Tryz.prog 36 #[.slice a1 0 c1, .slice a2 0 c2] w fun e w' => e = .returned (.bool true) ∧ w = w' := by
  go_enter Tryz.func36, Tryz.ntmps36
  go_wp2
  go_loopw [13] (fun s wr => wr = w ∧ s = .int .i64 0) (fun _ _ => 0)
  case atStart => exact ⟨rfl, rfl⟩
  case round =>
    obtain ⟨rfl, rfl⟩ := hrel
    go_wp2
    go_ret
    exact ⟨rfl, rfl⟩
set_option maxRecDepth 100000 in
theorem arrProduct_none (c : Nat) (w : World) : Calls Tryz.prog 91 #[.slice none 0 c] w fun e w' => e = .returned (.tuple #[.int .i64 1, .int .i64 0]) ∧ w' = w := by
  go_enter Tryz.func91, Tryz.ntmps91
  go_wp2
  go_loopw [4, 9] (fun z s wr => wr = w ∧ z = .int .i64 1 ∧ s = .int .i64 0) (fun _ _ _ => 0)
  case atStart => exact ⟨rfl, rfl, rfl⟩
  case round =>
    obtain ⟨rfl, rfl, rfl⟩ := hrel
    go_wp2
    go_ret2
    exact ⟨rfl, rfl⟩
set_option maxRecDepth 100000 in
theorem arrSize_none (c : Nat) (w : World) : Calls Tryz.prog 67 #[.slice none 0 c] w fun e w' => e = .returned (.tuple #[.int .i64 1, .int .i64 0]) ∧ w' = w := by
  go_enter Tryz.func67, Tryz.ntmps67
  go_wp2
  go_loopw [4, 5, 13] (fun z y s wr => wr = w ∧ z = .int .i64 1 ∧ y = .int .i64 1 ∧ s = .int .i64 0) (fun _ _ _ _ => 0)
  case atStart => exact ⟨rfl, rfl, rfl, rfl⟩
  case round =>
    obtain ⟨rfl, rfl, rfl, rfl⟩ := hrel
    go_wp2_with fail
    refine (arrProduct_none c _).mono ?_
    rintro e w' ⟨rfl, rfl⟩
    go_wp2
    go_ret2
    exact ⟨rfl, rfl⟩
section
variable {w : World} {base k : Nat} {b : Bool} {ns ds : List Int}
set_option maxRecDepth 100000 in
theorem isSimple_num {x1 x2 : Option Addr} {n1 n2 y1 y2 : Nat} (h : BoxA w k 55 #[.int .u8 1, .bool b, .slice x1 n1 y1, .slice x2 n2 y2, .int .i32 0, .slice none 0 0]) :
    Calls Tryz.prog 69 #[.agg #[.slice none 0 0, .slice (some ⟨k, 0, none⟩) 1 1]] w fun e w' => e = .returned (.bool true) ∧ Below w.heap.size w w' := by
  have kk := below_alloc w (.cells #[.slice none 0 0, .slice (some ⟨k, 0, none⟩) 1 1] 35)
  have h' := h.below kk h.lt
  have A := boxA_new w #[.slice none 0 0, .slice (some ⟨k, 0, none⟩) 1 1] 35
  have a0 := A.cell 0 rfl
  have a1 := A.cell 1 rfl
  have i0 := h'.cell 0 rfl
  go_enter Tryz.func69, Tryz.ntmps69
  go_wp2
  go_ret
  exact ⟨rfl, kk⟩
end
end Go.Proofs.YtahfllppbfnpfaaGreatDoor

/- array.Right of a scalar of a right number. -/
namespace Go.Proofs.YtahfllppbfnpfaaGreatDoor
set_option linter.unusedVariables false
set_option linter.unusedSimpArgs false
open Go.RowKit

section
variable {w : World} {b : Bool} {a1 a2 : Option Addr} {c1 c2 : Nat} {ns ds : List Int}
set_option maxRecDepth 100000 in
set_option maxHeartbeats 16000000 in
theorem measuredItem_num (lv : Int) (h1 : Rd w.heap.size w (.slice a1 ns.length c1) ns) (h2 : Rd w.heap.size w (.slice a2 ds.length c2) ds) (hr : RightP b ns ds) :
    Calls Tryz.prog 68 #[.agg #[.int .u8 1, .bool b, .slice a1 ns.length c1, .slice a2 ds.length c2, .int .i32 0, .slice none 0 0], .int .i64 lv] w fun e w' => e = .returned (.tuple #[.agg #[.int .i64 0, .int .i64 0], .bool true]) ∧ Below w.heap.size w w' := by
  have HR : Hid (RightP b ns ds) := hr
  clear hr
  have X0 := boxA_new w #[.int .u8 1, .bool b, .slice a1 ns.length c1, .slice a2 ds.length c2, .int .i32 0, .slice none 0 0] 55
  have k0 := below_alloc w (.cells #[.int .u8 1, .bool b, .slice a1 ns.length c1, .slice a2 ds.length c2, .int .i32 0, .slice none 0 0] 55)
  have k1 := below_alloc (w.alloc (.cells #[.int .u8 1, .bool b, .slice a1 ns.length c1, .slice a2 ds.length c2, .int .i32 0, .slice none 0 0] 55)) (.cells #[.int .i64 0, .int .i64 0] 90)
  have R := boxA_new (w.alloc (.cells #[.int .u8 1, .bool b, .slice a1 ns.length c1, .slice a2 ds.length c2, .int .i32 0, .slice none 0 0] 55)) #[.int .i64 0, .int .i64 0] 90
  rw [World.size_alloc] at R
  have X := X0.below k1 (by simp)
  have g : Below w.heap.size w _ := k0.trans (k1.mono (by simp))
  have sv : ((w.alloc (.cells #[.int .u8 1, .bool b, .slice a1 ns.length c1, .slice a2 ds.length c2, .int .i32 0, .slice none 0 0] 55)).alloc (.cells #[.int .i64 0, .int .i64 0] 90)).heap.size = w.heap.size + 1 + 1 := by simp
  replace h1 := h1.below g
  replace h2 := h2.below g
  obtain ⟨X0', X1, X2, X3, X4, X5⟩ := X.num
  go_enter Tryz.func68, Tryz.ntmps68
  go_upto_region 3 with fail
  generalize hA : (w.alloc (.cells #[.int .u8 1, .bool b, .slice a1 ns.length c1, .slice a2 ds.length c2, .int .i32 0, .slice none 0 0] 55)).alloc (.cells #[.int .i64 0, .int .i64 0] 90) = v at *
  clear hA k0 k1 X0
  have hcells : ∀ {w' : World}, Below v.heap.size v w' → w'.cell? ⟨w.heap.size, 1, none⟩ = some (.bool b) ∧ w'.cell? ⟨w.heap.size, 2, none⟩ = some (.slice a1 ns.length c1) ∧ w'.cell? ⟨w.heap.size, 3, none⟩ = some (.slice a2 ds.length c2) ∧ w'.cell? ⟨w.heap.size, 4, none⟩ = some (.int .i32 0) ∧ w'.cell? ⟨w.heap.size, 5, none⟩ = some (.slice none 0 0) := fun hb => by
    obtain ⟨_, q1, q2, q3, q4, q5⟩ := (X.below hb (by omega)).num
    exact ⟨q1, q2, q3, q4, q5⟩
  have d0 : Below v.heap.size v v.drew := ⟨rfl, rfl, rfl, Nat.le_refl _, fun _ _ => rfl⟩
  have h1' : Rd v.drew.heap.size v.drew (.slice a1 ns.length c1) ns := h1.mono (by simp; omega)
  have h2' : Rd v.drew.heap.size v.drew (.slice a2 ds.length c2) ds := h2.mono (by simp; omega)
  go_region_held3 (fun w' => w'.cell? ⟨w.heap.size, 1, none⟩ = some (.bool b) ∧ w'.cell? ⟨w.heap.size, 2, none⟩ = some (.slice a1 ns.length c1) ∧ w'.cell? ⟨w.heap.size, 3, none⟩ = some (.slice a2 ds.length c2) ∧ w'.cell? ⟨w.heap.size, 4, none⟩ = some (.int .i32 0) ∧ w'.cell? ⟨w.heap.size, 5, none⟩ = some (.slice none 0 0))
    (first | (go_keep; done) | exact tw)
    (first
      | (go_at_call 6; refine (right_rat h1' h2' (Nat.le_refl _)).mono ?_; rintro e wa ⟨⟨r, rfl, hr⟩, ka'⟩; obtain rfl : r = true := hr.2 HR.out; clear hr; have ka : Below v.heap.size v wa := d0.trans (ka'.mono d0.size); have tw := hcells ka; have Rc := R.below ka (by omega); have q0 := Rc.cell 0 rfl; have q1 := Rc.cell 1 rfl; have p0 := Rc.frozen 0; have p1 := Rc.frozen 1))
  all_goals
    go_wp2
    have Rd2 := Rc.set2 (.int .i64 0) (.int .i64 0)
    have r0 := Rd2.cell 0 rfl
    have r1 := Rd2.cell 1 rfl
    refine bodyPost_ret (v := .tuple #[.agg #[.int .i64 0, .int .i64 0], .bool true]) (by simp [results, Tryz.results68, go_sem, r0, r1]) rfl ?_
    exact ⟨rfl, Below.set2 (g.trans (ka.mono (by omega))) (by omega) _ _⟩
end
end Go.Proofs.YtahfllppbfnpfaaGreatDoor

/- array.measured and array.Right of a scalar of a right number. -/
namespace Go.Proofs.YtahfllppbfnpfaaGreatDoor
set_option linter.unusedVariables false
set_option linter.unusedSimpArgs false
open Go.RowKit

section
variable {w : World} {base k : Nat} {b : Bool} {ns ds : List Int}
theorem BoxA.set0 {w : World} {R ty : Nat} {u0 u1 : Value} (h : BoxA w R ty #[u0, u1]) (u : Value) : BoxA (w.setCell ⟨R, 0, none⟩ u) R ty #[u, u1] := by
  unfold BoxA at h ⊢
  simp [World.setCell, Array.getElem?_modify, h]
theorem BoxA.set1 {w : World} {R ty : Nat} {u0 u1 : Value} (h : BoxA w R ty #[u0, u1]) (u : Value) : BoxA (w.setCell ⟨R, 1, none⟩ u) R ty #[u0, u] := by
  unfold BoxA at h ⊢
  simp [World.setCell, Array.getElem?_modify, h]

set_option maxRecDepth 100000 in
set_option maxHeartbeats 16000000 in
theorem measured_num (hN : NumAt base w k b ns ds) (hr : RightP b ns ds) :
    Calls Tryz.prog 35 #[.agg #[.slice none 0 0, .slice (some ⟨k, 0, none⟩) 1 1], .int .i64 16] w fun e w' => ∃ x y, e = .returned (.tuple #[.agg #[.int .i64 x, .int .i64 y], .bool true]) ∧ Below w.heap.size w w' := by
  have HR : Hid (RightP b ns ds) := hr
  clear hr
  have A0 := boxA_new w #[.slice none 0 0, .slice (some ⟨k, 0, none⟩) 1 1] 35
  have k0 := below_alloc w (.cells #[.slice none 0 0, .slice (some ⟨k, 0, none⟩) 1 1] 35)
  have k1 := below_alloc (w.alloc (.cells #[.slice none 0 0, .slice (some ⟨k, 0, none⟩) 1 1] 35)) (.cells #[.int .i64 0, .int .i64 0] 90)
  have R := boxA_new (w.alloc (.cells #[.slice none 0 0, .slice (some ⟨k, 0, none⟩) 1 1] 35)) #[.int .i64 0, .int .i64 0] 90
  rw [World.size_alloc] at R
  have A := A0.below k1 (by simp)
  have g : Below w.heap.size w _ := k0.trans (k1.mono (by simp))
  have sv : ((w.alloc (.cells #[.slice none 0 0, .slice (some ⟨k, 0, none⟩) 1 1] 35)).alloc (.cells #[.int .i64 0, .int .i64 0] 90)).heap.size = w.heap.size + 1 + 1 := by simp
  have N1 := (hN.below k0 (Nat.le_refl _)).below k1 (by simp)
  have hkw := hN.lt
  clear hN k0 k1 A0
  have a0 := A.cell 0 rfl
  have a1 := A.cell 1 rfl
  go_enter Tryz.func35, Tryz.ntmps35
  go_wp2_with fail
  generalize hA : (w.alloc (.cells #[.slice none 0 0, .slice (some ⟨k, 0, none⟩) 1 1] 35)).alloc (.cells #[.int .i64 0, .int .i64 0] 90) = v at *
  clear hA
  refine (arrSize_none 0 _).mono ?_
  rintro e w1 ⟨rfl, rfl⟩
  have W0 := boxA_new w1 #[.int .i64 1, .int .i64 1] 90
  rw [sv] at W0
  have kW := below_alloc w1 (.cells #[.int .i64 1, .int .i64 1] 90)
  have A1 := A.below kW (by omega)
  have b0 := A1.cell 0 rfl
  have b1 := A1.cell 1 rfl
  go_wp2
  go_loopw [41] (fun s wr => ∃ j : Nat, j ≤ 1 ∧ s = .int .i64 j ∧ BoxA wr (w.heap.size + 1 + 1) 90 #[.int .i64 1, .int .i64 1] ∧ Below w1.heap.size w1 wr) (fun s _ => 1 - (intOf s).toNat)
  case atStart => exact ⟨0, by omega, rfl, W0, kW⟩
  case round =>
    clear W0 kW A1 b0 b1 a0 a1
    obtain ⟨j, hj, rfl, W, kr⟩ := hrel
    have sr := kr.size
    have Ar := A.below kr (by omega)
    have Nr := N1.below kr (Nat.le_refl _)
    have Rr := R.below kr (by omega)
    have c0 := Ar.cell 0 rfl
    have c1 := Ar.cell 1 rfl
    have hWlt := W.lt
    by_cases h0 : j = 0
    · subst h0
      obtain ⟨hbk, x1, y1, x2, y2, hB, o1, o2⟩ := Nr
      obtain ⟨i0, i1, i2, i3, i4, i5⟩ := hB.num
      have ki := below_alloc wr (.cells #[.int .u8 1, .bool b, .slice x1 ns.length y1, .slice x2 ds.length y2, .int .i32 0, .slice none 0 0] 55)
      have si := ki.size
      go_wp2_with fail
      generalize hA : wr.alloc (.cells #[.int .u8 1, .bool b, .slice x1 ns.length y1, .slice x2 ds.length y2, .int .i32 0, .slice none 0 0] 55) = wi at *
      clear hA
      have p1 := ((o1.below ki (Nat.le_refl _)).rd)
      have p2 := ((o2.below ki (Nat.le_refl _)).rd)
      refine (measuredItem_num _ p1 p2 HR.out).mono ?_
      rintro e wm ⟨rfl, km⟩
      have kp := below_alloc wm (.cells #[.int .i64 0, .int .i64 0] 90)
      have P := boxA_new wm #[.int .i64 0, .int .i64 0] 90
      have Wp := ((W.below ki (by omega)).below km (by omega)).below kp (by have := km.size; omega)
      have w0 := Wp.cell 0 rfl
      have w1c := Wp.cell 1 rfl
      have fw0 := Wp.frozen 0
      have fw1 := Wp.frozen 1
      have q0 := P.cell 0 rfl
      have q1 := P.cell 1 rfl
      have W1 := Wp.set0 (.int .i64 1)
      have W2 := W1.set1 (.int .i64 1)
      have e0 := W1.cell 0 rfl
      have e1 := W1.cell 1 rfl
      have fe0 := W1.frozen 0
      have fe1 := W1.frozen 1
      have P1 := P.other (p := ⟨w.heap.size + 1 + 1, 0, none⟩) (show w.heap.size + 1 + 1 ≠ wm.heap.size by have := km.size; omega) (.int .i64 1)
      have e2 := P1.cell 0 rfl
      have e3 := P1.cell 1 rfl
      have d0 := W2.cell 0 rfl
      have d1 := W2.cell 1 rfl
      have hwe : w1.heap.size ≤ w.heap.size + 1 + 1 := by omega
      have T : Below w1.heap.size w1 (((wm.alloc (.cells #[.int .i64 0, .int .i64 0] 90)).setCell ⟨w.heap.size + 1 + 1, 0, none⟩ (.int .i64 1)).setCell ⟨w.heap.size + 1 + 1, 1, none⟩ (.int .i64 1)) := (((((kr.trans (ki.mono sr)).trans (km.mono (by omega))).trans (kp.mono (by have := km.size; omega))).setCell (p := ⟨w.heap.size + 1 + 1, 0, none⟩) hwe _).setCell (p := ⟨w.heap.size + 1 + 1, 1, none⟩) hwe _)
      go_wp2
      go_roundw
      case rel => exact ⟨1, by omega, by go_num, W2, T⟩
      case measure => simp [intOf]
    · obtain rfl : j = 1 := by omega
      obtain ⟨hbk, x1, y1, x2, y2, hB, o1, o2⟩ := Nr
      go_wp2_with fail
      refine (isSimple_num hB).mono ?_
      rintro e ws ⟨rfl, ks⟩
      have Ws := W.below ks (by omega)
      have Rs := Rr.below ks (by omega)
      have w0 := Ws.cell 0 rfl
      have w1c := Ws.cell 1 rfl
      have fw0 := Ws.frozen 0
      have fw1 := Ws.frozen 1
      have W1 := Ws.set0 (.int .i64 0)
      have e0 := W1.cell 0 rfl
      have e1 := W1.cell 1 rfl
      have R1 := Rs.other (p := ⟨w.heap.size + 1 + 1, 0, none⟩) (show w.heap.size + 1 + 1 ≠ w.heap.size + 1 by omega) (.int .i64 0)
      have q0 := R1.cell 0 rfl
      have q1 := R1.cell 1 rfl
      have f0 := R1.frozen 0
      have f1 := R1.frozen 1
      have T : Below w.heap.size w (ws.setCell ⟨w.heap.size + 1 + 1, 0, none⟩ (.int .i64 0)) := ((g.trans (kr.mono (by omega))).trans (ks.mono (by omega))).setCell (p := ⟨w.heap.size + 1 + 1, 0, none⟩) (show w.heap.size ≤ w.heap.size + 1 + 1 by omega) _
      go_wp2
      have R2 := R1.set2 (.int .i64 0) (.int .i64 1)
      have r0 := R2.cell 0 rfl
      have r1 := R2.cell 1 rfl
      refine bodyPost_ret (v := .tuple #[.agg #[.int .i64 0, .int .i64 1], .bool true]) (by simp [results, Tryz.results35, go_sem, r0, r1]) rfl ?_
      exact ⟨0, 1, rfl, Below.set2 T (by omega) _ _⟩

set_option maxRecDepth 100000 in
set_option maxHeartbeats 3200000 in
theorem arrRight_num (hN : NumAt base w k b ns ds) (hr : RightP b ns ds) :
    Calls Tryz.prog 16 #[.agg #[.slice none 0 0, .slice (some ⟨k, 0, none⟩) 1 1]] w fun e w' => e = .returned (.bool true) ∧ Below w.heap.size w w' := by
  have A := boxA_new w #[.slice none 0 0, .slice (some ⟨k, 0, none⟩) 1 1] 35
  have k0 := below_alloc w (.cells #[.slice none 0 0, .slice (some ⟨k, 0, none⟩) 1 1] 35)
  have N1 := hN.below k0 (Nat.le_refl _)
  have HR : Hid (RightP b ns ds) := hr
  clear hr
  have a0 := A.cell 0 rfl
  have a1 := A.cell 1 rfl
  go_enter Tryz.func16, Tryz.ntmps16
  go_wp2_with fail
  generalize hA : w.alloc (.cells #[.slice none 0 0, .slice (some ⟨k, 0, none⟩) 1 1] 35) = v at *
  clear hA
  refine (measured_num N1 HR.out).mono ?_
  rintro e w1 ⟨x, y, rfl, k1⟩
  go_wp2
  go_ret
  exact ⟨rfl, (k0.trans (k1.mono k0.size)).alloc (by have := k0.size; have := k1.size; omega) _⟩
end
end Go.Proofs.YtahfllppbfnpfaaGreatDoor

/- array.Match of two scalars of the same number. -/
namespace Go.Proofs.YtahfllppbfnpfaaGreatDoor
set_option linter.unusedVariables false
set_option linter.unusedSimpArgs false
open Go.RowKit

section
variable {w : World} {b : Bool} {a1 a2 a3 a4 : Option Addr} {c1 c2 c3 c4 : Nat} {ns ds : List Int} {base base' k j : Nat}
set_option maxRecDepth 100000 in
set_option maxHeartbeats 6400000 in
theorem sameItem_num (h1 : Rd w.heap.size w (.slice a1 ns.length c1) ns) (h2 : Rd w.heap.size w (.slice a2 ds.length c2) ds) (h3 : Rd w.heap.size w (.slice a3 ns.length c3) ns) (h4 : Rd w.heap.size w (.slice a4 ds.length c4) ds) :
    Calls Tryz.prog 38 #[.agg #[.int .u8 1, .bool b, .slice a1 ns.length c1, .slice a2 ds.length c2, .int .i32 0, .slice none 0 0], .agg #[.int .u8 1, .bool b, .slice a3 ns.length c3, .slice a4 ds.length c4, .int .i32 0, .slice none 0 0]] w fun e w' => e = .returned (.bool true) ∧ Below w.heap.size w w' := by
  have X0 := boxA_new w #[.int .u8 1, .bool b, .slice a1 ns.length c1, .slice a2 ds.length c2, .int .i32 0, .slice none 0 0] 55
  have k0 := below_alloc w (.cells #[.int .u8 1, .bool b, .slice a1 ns.length c1, .slice a2 ds.length c2, .int .i32 0, .slice none 0 0] 55)
  have k1 := below_alloc (w.alloc (.cells #[.int .u8 1, .bool b, .slice a1 ns.length c1, .slice a2 ds.length c2, .int .i32 0, .slice none 0 0] 55)) (.cells #[.int .u8 1, .bool b, .slice a3 ns.length c3, .slice a4 ds.length c4, .int .i32 0, .slice none 0 0] 55)
  have Y := boxA_new (w.alloc (.cells #[.int .u8 1, .bool b, .slice a1 ns.length c1, .slice a2 ds.length c2, .int .i32 0, .slice none 0 0] 55)) #[.int .u8 1, .bool b, .slice a3 ns.length c3, .slice a4 ds.length c4, .int .i32 0, .slice none 0 0] 55
  rw [World.size_alloc] at Y
  have X := X0.below k1 (by simp)
  have g : Below w.heap.size w _ := k0.trans (k1.mono (by simp))
  have sv : ((w.alloc (.cells #[.int .u8 1, .bool b, .slice a1 ns.length c1, .slice a2 ds.length c2, .int .i32 0, .slice none 0 0] 55)).alloc (.cells #[.int .u8 1, .bool b, .slice a3 ns.length c3, .slice a4 ds.length c4, .int .i32 0, .slice none 0 0] 55)).heap.size = w.heap.size + 1 + 1 := by simp
  replace h1 := h1.below g
  replace h2 := h2.below g
  replace h3 := h3.below g
  replace h4 := h4.below g
  have hbb : (b == b) = true := by simp
  obtain ⟨X0', X1, X2, X3, X4, X5⟩ := X.num
  obtain ⟨Y0', Y1, Y2, Y3, Y4, Y5⟩ := Y.num
  go_enter Tryz.func38, Tryz.ntmps38
  go_wp2_with fail
  clear X0' X1 X2 X3 X4 X5 Y0' Y1 Y2 Y3 Y4 Y5
  generalize hA : (w.alloc (.cells #[.int .u8 1, .bool b, .slice a1 ns.length c1, .slice a2 ds.length c2, .int .i32 0, .slice none 0 0] 55)).alloc (.cells #[.int .u8 1, .bool b, .slice a3 ns.length c3, .slice a4 ds.length c4, .int .i32 0, .slice none 0 0] 55) = v at *
  clear hA k0 k1 X0
  refine (equal_rd h1 h3).mono ?_
  rintro e w1 ⟨rfl, j1⟩
  have s1 := j1.size
  obtain ⟨X0', X1, X2, X3, X4, X5⟩ := (X.below j1 (by omega)).num
  obtain ⟨Y0', Y1, Y2, Y3, Y4, Y5⟩ := (Y.below j1 (by omega)).num
  go_wp2_with fail
  clear X0' X1 X2 X3 X4 X5 Y0' Y1 Y2 Y3 Y4 Y5
  refine (equal_rd (h2.below (j1.mono (by omega))) (h4.below (j1.mono (by omega)))).mono ?_
  rintro e w2 ⟨rfl, j2⟩
  go_wp2
  go_ret
  exact ⟨rfl, (g.trans (j1.mono g.size)).trans (j2.mono (by omega))⟩

set_option maxRecDepth 100000 in
set_option maxHeartbeats 6400000 in
theorem equalFunc_num (hX : NumAt base w k b ns ds) (hY : NumAt base' w j b ns ds) :
    Calls Tryz.prog 37 #[.slice (some ⟨k, 0, none⟩) 1 1, .slice (some ⟨j, 0, none⟩) 1 1, .func (.func 38) #[] #[]] w fun e w' => e = .returned (.bool true) ∧ Below w.heap.size w w' := by
  go_enter Tryz.func37, Tryz.ntmps37
  go_wp2
  go_loopw [17] (fun s wr => ∃ i : Nat, i ≤ 1 ∧ s = .int .i64 i ∧ Below w.heap.size w wr) (fun s _ => 1 - (intOf s).toNat)
  case atStart => exact ⟨0, by omega, rfl, Below.refl _ _⟩
  case round =>
    obtain ⟨i, hi, rfl, kr⟩ := hrel
    have sr := kr.size
    by_cases h0 : i = 0
    · subst h0
      obtain ⟨_, x1, y1, x2, y2, hB, o1, o2⟩ := hX.below kr (Nat.le_refl _)
      obtain ⟨_, x3, y3, x4, y4, hC, o3, o4⟩ := hY.below kr (Nat.le_refl _)
      have ki := below_alloc wr (.cells #[.int .u8 1, .bool b, .slice x1 ns.length y1, .slice x2 ds.length y2, .int .i32 0, .slice none 0 0] 55)
      have kj := below_alloc (wr.alloc (.cells #[.int .u8 1, .bool b, .slice x1 ns.length y1, .slice x2 ds.length y2, .int .i32 0, .slice none 0 0] 55)) (.cells #[.int .u8 1, .bool b, .slice x3 ns.length y3, .slice x4 ds.length y4, .int .i32 0, .slice none 0 0] 55)
      have kk : Below wr.heap.size wr _ := ki.trans (kj.mono ki.size)
      have hBi := hB.below ki hB.lt
      have hCi := hC.below ki hC.lt
      have I := boxA_new wr #[.int .u8 1, .bool b, .slice x1 ns.length y1, .slice x2 ds.length y2, .int .i32 0, .slice none 0 0] 55
      have Ij := I.below kj I.lt
      have J := boxA_new (wr.alloc (.cells #[.int .u8 1, .bool b, .slice x1 ns.length y1, .slice x2 ds.length y2, .int .i32 0, .slice none 0 0] 55)) #[.int .u8 1, .bool b, .slice x3 ns.length y3, .slice x4 ds.length y4, .int .i32 0, .slice none 0 0] 55
      rw [World.size_alloc] at J
      obtain ⟨i0, i1, i2, i3, i4, i5⟩ := hB.num
      obtain ⟨l0, l1, l2, l3, l4, l5⟩ := hCi.num
      obtain ⟨m0, m1, m2, m3, m4, m5⟩ := Ij.num
      obtain ⟨n0, n1, n2, n3, n4, n5⟩ := J.num
      have p1 := (o1.below kk (Nat.le_refl _)).rd
      have p2 := (o2.below kk (Nat.le_refl _)).rd
      have p3 := (o3.below kk (Nat.le_refl _)).rd
      have p4 := (o4.below kk (Nat.le_refl _)).rd
      go_wp2_with fail
      refine (sameItem_num p1 p2 p3 p4).mono ?_
      rintro e wm ⟨rfl, km⟩
      have T : Below w.heap.size w wm := (kr.trans (kk.mono sr)).trans (km.mono (by have := kk.size; omega))
      go_wp2
      go_roundw
      case rel => exact ⟨1, by omega, by go_num, T⟩
      case measure => simp [intOf]
    · obtain rfl : i = 1 := by omega
      go_wp2
      go_ret
      exact ⟨rfl, kr⟩

set_option maxRecDepth 100000 in
set_option maxHeartbeats 6400000 in
theorem arrSame_num (hX : NumAt base w k b ns ds) (hY : NumAt base' w j b ns ds) :
    Calls Tryz.prog 17 #[.agg #[.slice none 0 0, .slice (some ⟨k, 0, none⟩) 1 1], .agg #[.slice none 0 0, .slice (some ⟨j, 0, none⟩) 1 1]] w fun e w' => e = .returned (.bool true) ∧ Below w.heap.size w w' := by
  have A0 := boxA_new w #[.slice none 0 0, .slice (some ⟨k, 0, none⟩) 1 1] 35
  have k0 := below_alloc w (.cells #[.slice none 0 0, .slice (some ⟨k, 0, none⟩) 1 1] 35)
  have k1 := below_alloc (w.alloc (.cells #[.slice none 0 0, .slice (some ⟨k, 0, none⟩) 1 1] 35)) (.cells #[.slice none 0 0, .slice (some ⟨j, 0, none⟩) 1 1] 35)
  have C := boxA_new (w.alloc (.cells #[.slice none 0 0, .slice (some ⟨k, 0, none⟩) 1 1] 35)) #[.slice none 0 0, .slice (some ⟨j, 0, none⟩) 1 1] 35
  rw [World.size_alloc] at C
  have A := A0.below k1 (by simp)
  have g : Below w.heap.size w _ := k0.trans (k1.mono (by simp))
  have X1 := hX.below g (Nat.le_refl _)
  have Y1 := hY.below g (Nat.le_refl _)
  have a0 := A.cell 0 rfl
  have a1 := A.cell 1 rfl
  have d0 := C.cell 0 rfl
  have d1 := C.cell 1 rfl
  go_enter Tryz.func17, Tryz.ntmps17
  go_wp2_with fail
  generalize hA : (w.alloc (.cells #[.slice none 0 0, .slice (some ⟨k, 0, none⟩) 1 1] 35)).alloc (.cells #[.slice none 0 0, .slice (some ⟨j, 0, none⟩) 1 1] 35) = v at *
  clear hA
  refine (equal_shape none none 0 0 _).mono ?_
  rintro e w1 ⟨rfl, rfl⟩
  go_wp2_with fail
  refine (equalFunc_num X1 Y1).mono ?_
  rintro e w2 ⟨rfl, k2⟩
  go_wp2
  go_ret
  exact ⟨rfl, g.trans (k2.mono g.size)⟩

set_option maxRecDepth 100000 in
set_option maxHeartbeats 6400000 in
theorem match_num (hX : NumAt base w k b ns ds) (hY : NumAt base' w j b ns ds) (hr : RightP b ns ds) :
    Calls Tryz.prog 7 #[.agg #[.slice none 0 0, .slice (some ⟨k, 0, none⟩) 1 1], .agg #[.slice none 0 0, .slice (some ⟨j, 0, none⟩) 1 1]] w fun e w' => e = .returned (.bool true) ∧ Below w.heap.size w w' := by
  have HR : Hid (RightP b ns ds) := hr
  clear hr
  have A0 := boxA_new w #[.slice none 0 0, .slice (some ⟨k, 0, none⟩) 1 1] 35
  have k0 := below_alloc w (.cells #[.slice none 0 0, .slice (some ⟨k, 0, none⟩) 1 1] 35)
  have k1 := below_alloc (w.alloc (.cells #[.slice none 0 0, .slice (some ⟨k, 0, none⟩) 1 1] 35)) (.cells #[.slice none 0 0, .slice (some ⟨j, 0, none⟩) 1 1] 35)
  have C := boxA_new (w.alloc (.cells #[.slice none 0 0, .slice (some ⟨k, 0, none⟩) 1 1] 35)) #[.slice none 0 0, .slice (some ⟨j, 0, none⟩) 1 1] 35
  rw [World.size_alloc] at C
  have A := A0.below k1 (by simp)
  have g : Below w.heap.size w _ := k0.trans (k1.mono (by simp))
  have X1 := hX.below g (Nat.le_refl _)
  have Y1 := hY.below g (Nat.le_refl _)
  have sv : ((w.alloc (.cells #[.slice none 0 0, .slice (some ⟨k, 0, none⟩) 1 1] 35)).alloc (.cells #[.slice none 0 0, .slice (some ⟨j, 0, none⟩) 1 1] 35)).heap.size = w.heap.size + 1 + 1 := by simp
  have a0 := A.cell 0 rfl
  have a1 := A.cell 1 rfl
  go_enter Tryz.func7, Tryz.ntmps7
  go_wp2_with fail
  generalize hA : (w.alloc (.cells #[.slice none 0 0, .slice (some ⟨k, 0, none⟩) 1 1] 35)).alloc (.cells #[.slice none 0 0, .slice (some ⟨j, 0, none⟩) 1 1] 35) = v at *
  clear hA a0 a1
  refine (arrRight_num X1 HR.out).mono ?_
  rintro e w1 ⟨rfl, j1⟩
  have s1 := j1.size
  have C1 := C.below j1 (by omega)
  have d0 := C1.cell 0 rfl
  have d1 := C1.cell 1 rfl
  go_wp2_with fail
  clear d0 d1
  refine (arrRight_num (Y1.below j1 (Nat.le_refl _)) HR.out).mono ?_
  rintro e w2 ⟨rfl, j2⟩
  have s2 := j2.size
  have t2 : Below v.heap.size v w2 := j1.trans (j2.mono s1)
  have A2 := A.below t2 (by omega)
  have C2 := C.below t2 (by omega)
  have a0 := A2.cell 0 rfl
  have a1 := A2.cell 1 rfl
  have d0 := C2.cell 0 rfl
  have d1 := C2.cell 1 rfl
  go_wp2_with fail
  refine (arrSame_num (X1.below t2 (Nat.le_refl _)) (Y1.below t2 (Nat.le_refl _))).mono ?_
  rintro e w3 ⟨rfl, j3⟩
  go_wp2
  go_ret
  exact ⟨rfl, (g.trans (t2.mono g.size)).trans (j3.mono (by omega))⟩
end
end Go.Proofs.YtahfllppbfnpfaaGreatDoor

/- What texts of numbers answer, in one form; a number's text is read back. -/
namespace Go.Proofs.YtahfllppbfnpfaaGreatDoor
set_option linter.unusedVariables false
set_option linter.unusedSimpArgs false
open Go.RowKit

theorem Cuts.fix {l A H A' H' : List UInt8} {B B' : Bool} {m m' : Int} (h : Cuts l B m A H) (k : Cuts l B' m' A' H') : B = B' ∧ m = m' ∧ A = A' ∧ H = H' := by
  obtain ⟨k1, ⟨k2, k3, k4, k5⟩ | ⟨x, hx, k2, k3, k4⟩⟩ := k
  · obtain ⟨h1, ⟨h2, h3, h4, h5⟩ | ⟨x, hx, h2, h3, h4⟩⟩ := h
    · exact ⟨by rw [h1, k1], by rw [h2, k2], by rw [h3, k3], by rw [h4, k4]⟩
    · exfalso
      rw [← k3] at h3
      exact k5 x (by rw [h3]; simp) hx
  · obtain ⟨e1, e2, e3⟩ := cuts_unique h hx k3 k4
    exact ⟨h.1.trans k1.symm, e1.trans k2.symm, e2, e3⟩

/-- What a text's parts make, as numbers. -/
def PartSpec (B : Bool) (m : Int) (A H : List UInt8) (b : Bool) (ns ds : List Int) (err : Int) : Prop :=
  ((¬ isNum A ∨ (¬ m = 0 ∧ ¬ isNum H)) ∧ err = 22 ∧ b = false ∧ ns = [] ∧ ds = []) ∨ (isNum A ∧ m = 0 ∧ MakeSpec (sg B (dval A)) 1 b ns ds err) ∨
  (isNum A ∧ isNum H ∧ m = 114 ∧ MakeSpec (sg B (dval A)) (dval H) b ns ds err) ∨ (isNum A ∧ isNum H ∧ m = 46 ∧ MakeSpec (sg B ((dval A * 10 ^ H.length + dval H : Nat) : Int)) ((10 ^ H.length : Nat) : Int) b ns ds err)
theorem PartSpec.unique {B : Bool} {m : Int} {A H : List UInt8} {b c : Bool} {ns ds ms es : List Int} {e f : Int} (h : PartSpec B m A H b ns ds e) (k : PartSpec B m A H c ms es f) : c = b ∧ ms = ns ∧ es = ds ∧ f = e := by
  rcases h with ⟨h1, rfl, rfl, rfl, rfl⟩ | ⟨h1, h2, h3⟩ | ⟨h1, h2, h3, h4⟩ | ⟨h1, h2, h3, h4⟩ <;> rcases k with ⟨k1, rfl, rfl, rfl, rfl⟩ | ⟨k1, k2, k3⟩ | ⟨k1, k2, k3, k4⟩ | ⟨k1, k2, k3, k4⟩
  · exact ⟨rfl, rfl, rfl, rfl⟩
  · exfalso; rcases h1 with h | h
    · exact h k1
    · exact h.1 k2
  · exfalso; rcases h1 with h | h
    · exact h k1
    · exact h.2 k2
  · exfalso; rcases h1 with h | h
    · exact h k1
    · exact h.2 k2
  · exfalso; rcases k1 with h | h
    · exact h h1
    · exact h.1 h2
  · exact h3.unique k3
  · omega
  · omega
  · exfalso; rcases k1 with h | h
    · exact h h1
    · exact h.2 h2
  · omega
  · exact h4.unique k4
  · omega
  · exfalso; rcases k1 with h | h
    · exact h h1
    · exact h.2 h2
  · omega
  · omega
  · exact h4.unique k4
/-- What a text is read as. -/
def TextSpec (s : ByteArray) (b : Bool) (ns ds : List Int) (err : Int) : Prop :=
  (700 < Lib.runeCount s ∧ err = 8 ∧ b = false ∧ ns = [] ∧ ds = []) ∨ (¬ 700 < Lib.runeCount s ∧ ∃ B m A H, Cuts s.data.toList B m A H ∧ PartSpec B m A H b ns ds err)
theorem TextSpec.unique {s : ByteArray} {b c : Bool} {ns ds ms es : List Int} {e f : Int} (h : TextSpec s b ns ds e) (k : TextSpec s c ms es f) : c = b ∧ ms = ns ∧ es = ds ∧ f = e := by
  rcases h with ⟨h1, rfl, rfl, rfl, rfl⟩ | ⟨h1, B, m, A, H, h2, h3⟩ <;> rcases k with ⟨k1, rfl, rfl, rfl, rfl⟩ | ⟨k1, B', m', A', H', k2, k3⟩
  · exact ⟨rfl, rfl, rfl, rfl⟩
  · exact absurd h1 k1
  · exact absurd k1 h1
  · obtain ⟨rfl, rfl, rfl, rfl⟩ := h2.fix k2
    exact h3.unique k3
theorem RParses.spec {w w' : World} {s : ByteArray} {e : Ending} (h : RParses w s e w') : ∃ b ns ds err, Hid (TextSpec s b ns ds err) ∧ RAns w b ns ds err e w' := by
  obtain ⟨hb, ⟨h7, he⟩ | ⟨h7, B, m, A, H, hc, hp⟩⟩ := h
  · exact ⟨false, [], [], 8, Or.inl ⟨h7, rfl, rfl, rfl, rfl⟩, hb, none, 0, none, 0, he, nil_rd _, nil_rd _⟩
  · rcases hp with ⟨h1, he⟩ | ⟨h1, h2, h3⟩ | ⟨h1, h2, h3, h4, he⟩ | ⟨h1, h2, h3, h4, h5⟩ | ⟨h1, h2, h3, h4⟩
    · exact ⟨false, [], [], 22, Or.inr ⟨h7, B, m, A, H, hc, Or.inl ⟨h1, rfl, rfl, rfl, rfl⟩⟩, hb, none, 0, none, 0, he, nil_rd _, nil_rd _⟩
    · obtain ⟨b, ns, ds, err, hs, hr⟩ := h3.spec (by decide)
      exact ⟨b, ns, ds, err, Or.inr ⟨h7, B, m, A, H, hc, Or.inr (Or.inl ⟨h1, h2, hs.out⟩)⟩, hr⟩
    · refine ⟨false, [], [], 22, Or.inr ⟨h7, B, m, A, H, hc, Or.inr (Or.inr (Or.inl ⟨h1, h2, h3, Or.inl ⟨?_, rfl, rfl, rfl, rfl⟩⟩))⟩, hb, none, 0, none, 0, he, nil_rd _, nil_rd _⟩
      rw [h4]; rfl
    · obtain ⟨b, ns, ds, err, hs, hr⟩ := h5.spec (by omega)
      exact ⟨b, ns, ds, err, Or.inr ⟨h7, B, m, A, H, hc, Or.inr (Or.inr (Or.inl ⟨h1, h2, h3, hs.out⟩))⟩, hr⟩
    · obtain ⟨b, ns, ds, err, hs, hr⟩ := h4.spec (Int.natCast_pos.2 (Nat.pow_pos (by decide)))
      exact ⟨b, ns, ds, err, Or.inr ⟨h7, B, m, A, H, hc, Or.inr (Or.inr (Or.inr ⟨h1, h2, h3, hs.out⟩))⟩, hr⟩

theorem runeCount_le (s : ByteArray) : ∀ fuel pos, pos ≤ s.size → pos + Lib.runeCountFrom s fuel pos ≤ s.size
  | 0, pos, h => by unfold Lib.runeCountFrom; omega
  | f + 1, pos, h => by
    unfold Lib.runeCountFrom
    by_cases hp : pos < s.size
    · rw [if_pos hp]
      have h1 := Lib.decode_width_pos s pos hp
      have h2 := dec_end s pos hp
      have ih := runeCount_le s f (pos + (Utf8.decode s pos).2) h2
      omega
    · rw [if_neg hp]; omega

/-- A right number that is made anew of itself. -/
theorem make_self {b c : Bool} {ns ds ms es : List Int} {err : Int} (hr : RightP b ns ds) (h : MakeSpec (sg b (val ns)) (val ds) c ms es err) : err = 0 ∧ c = b ∧ ms = ns ∧ es = ds := by
  have hD : 0 < val ds := (right_pos hr).1
  rcases h with ⟨h0, _⟩ | ⟨_, _, _, _, _, hb⟩ | ⟨_, he, hr', hv⟩
  · omega
  · exact absurd hb (not_big hr rfl hD)
  · obtain ⟨rfl, rfl, rfl⟩ := right_is hr rfl hD hr' hv
    exact ⟨he, rfl, rfl, rfl⟩

theorem dig_not {n : Nat} {y : UInt8} (h : y ∈ Lib.decDigits n) : ¬ isM y ∧ ¬ y.toNat = 194 := by
  have := (dval_decDigits n).2.1 y h
  unfold isM
  omega
theorem isNum_dig (n : Nat) : isNum (Lib.decDigits n) := ⟨(dval_decDigits n).2.1, (dval_decDigits n).2.2⟩
theorem not_mac (n : Nat) (l : List UInt8) : isMac (Lib.decDigits n ++ l) = false := by
  cases h : Lib.decDigits n with
  | nil => have := (dval_decDigits n).2.2; rw [h] at this; simp at this
  | cons a k =>
    have ha := (dig_not (n := n) (y := a) (by rw [h]; simp)).2
    cases hk : k ++ l with
    | nil => simp [isMac, hk]
    | cons c r => simp [isMac, hk, ha]
theorem ratText_list (b : Bool) (ns ds : List Int) : (ratText b ns ds).data.toList = (if b = true then [194, 175] else []) ++ (Lib.decDigits (val ns).toNat ++ (if ds = [1] then [] else 114 :: Lib.decDigits (val ds).toNat)) := by
  unfold ratText digB
  by_cases h1 : ds = [1] <;> cases b <;> simp [h1, ByteArray.data_append]
theorem ratText_cuts (b : Bool) (ns ds : List Int) : Cuts (ratText b ns ds).data.toList b (if ds = [1] then 0 else 114) (Lib.decDigits (val ns).toNat) (if ds = [1] then [] else Lib.decDigits (val ds).toNat) := by
  rw [ratText_list]
  have hm : isMac ((if b = true then [194, 175] else []) ++ (Lib.decDigits (val ns).toNat ++ (if ds = [1] then [] else 114 :: Lib.decDigits (val ds).toNat))) = b := by
    cases b with
    | true => simp [isMac]
    | false => simp only [Bool.false_eq_true, if_false, List.nil_append]; exact not_mac _ _
  have hd : ((if b = true then [194, 175] else []) ++ (Lib.decDigits (val ns).toNat ++ (if ds = [1] then [] else 114 :: Lib.decDigits (val ds).toNat))).drop (st ((if b = true then [194, 175] else []) ++ (Lib.decDigits (val ns).toNat ++ (if ds = [1] then [] else 114 :: Lib.decDigits (val ds).toNat)))) = Lib.decDigits (val ns).toNat ++ (if ds = [1] then [] else 114 :: Lib.decDigits (val ds).toNat) := by
    unfold st
    rw [hm]
    cases b <;> simp
  refine ⟨hm.symm, ?_⟩
  rw [hd]
  by_cases h1 : ds = [1]
  · rw [if_pos h1, if_pos h1, if_pos h1, List.append_nil]
    exact Or.inl ⟨rfl, rfl, rfl, fun y hy => (dig_not hy).1⟩
  · rw [if_neg h1, if_neg h1, if_neg h1]
    exact Or.inr ⟨114, Or.inr rfl, rfl, rfl, fun y hy => (dig_not hy).1⟩
theorem ratText_size {b : Bool} {ns ds : List Int} (hr : RightP b ns ds) : (ratText b ns ds).size ≤ 700 := by
  have h1 := dig_bound hr.2.2.1.1
  have h2 := dig_bound hr.2.2.2.1.1
  have l1 := hr.1
  have l2 := hr.2.1
  have e : (ratText b ns ds).size = (ratText b ns ds).data.toList.length := by simp
  rw [e, ratText_list]
  generalize Lib.decDigits (val ns).toNat = A at *
  generalize Lib.decDigits (val ds).toNat = D at *
  by_cases h1 : ds = [1] <;> cases b <;> simp [h1] <;> omega
/-- A number's text is read as the number. -/
theorem TextSpec.back {b c : Bool} {ns ds ms es : List Int} {err : Int} (hr : RightP b ns ds) (h : TextSpec (ratText b ns ds) c ms es err) : err = 0 ∧ c = b ∧ ms = ns ∧ es = ds := by
  have hsz := ratText_size hr
  rcases h with ⟨h7, _⟩ | ⟨h7, B, m, A, H, hc, hp⟩
  · exfalso
    have := runeCount_le (ratText b ns ds) (ratText b ns ds).size 0 (Nat.zero_le _)
    unfold Lib.runeCount at h7
    omega
  · obtain ⟨rfl, rfl, rfl, rfl⟩ := (ratText_cuts b ns ds).fix hc
    have nv := (val_bound hr.2.2.1.1).1
    have dv := (right_pos hr).1
    have e1 : ((dval (Lib.decDigits (val ns).toNat) : Nat) : Int) = val ns := by rw [(dval_decDigits _).1]; omega
    have e2 : ((dval (Lib.decDigits (val ds).toNat) : Nat) : Int) = val ds := by rw [(dval_decDigits _).1]; omega
    have i1 := isNum_dig (val ns).toNat
    have i2 := isNum_dig (val ds).toNat
    by_cases h1 : ds = [1]
    · simp only [if_pos h1] at hp
      rcases hp with ⟨h2 | h2, _⟩ | ⟨_, _, h3⟩ | ⟨_, _, h3, _⟩ | ⟨_, _, h3, _⟩
      · exact absurd i1 h2
      · exact absurd rfl h2.1
      · rw [e1] at h3
        have v1 : val ds = 1 := by rw [h1]; decide
        rw [← v1] at h3
        exact make_self hr h3
      · exact absurd h3 (by decide)
      · exact absurd h3 (by decide)
    · simp only [if_neg h1] at hp
      rcases hp with ⟨h2 | h2, _⟩ | ⟨_, h3, _⟩ | ⟨_, _, _, h4⟩ | ⟨_, _, h3, _⟩
      · exact absurd i1 h2
      · exact absurd i2 h2.2
      · exact absurd h3 (by decide)
      · rw [e1, e2] at h4
        exact make_self hr h4
      · exact absurd h3 (by decide)
end Go.Proofs.YtahfllppbfnpfaaGreatDoor

/- lex: what is passed over, pieces, and numbers. -/
namespace Go.Proofs.YtahfllppbfnpfaaGreatDoor
set_option linter.unusedVariables false
set_option linter.unusedSimpArgs false
open Go.RowKit

/-- The first place from i on that is neither a blank nor in a remark. -/
def passTo (cs : List Int) (i : Nat) : Nat := if runEnd bl cs i < cs.length ∧ cs.getD (runEnd bl cs i) 0 = 9053 then cs.length else runEnd bl cs i
theorem runEnd_le (p : Int → Bool) (cs : List Int) (i : Nat) (hi : i ≤ cs.length) : i ≤ runEnd p cs i ∧ runEnd p cs i ≤ cs.length := by
  unfold runEnd
  have h := (List.takeWhile_sublist p (l := cs.drop i)).length_le
  rw [List.length_drop] at h
  omega

set_option maxRecDepth 100000 in
set_option maxHeartbeats 1600000 in
theorem passed_any {B : Nat} {w : World} {v : Value} {cs : List Int} (h : RdR B w v cs) (i : Nat) (hi : i ≤ cs.length) :
    Calls Tryz.prog 30 #[v, .int .i64 i] w fun e w' => e = .returned (.int .i64 ((passTo cs i : Nat) : Int)) ∧ w' = w := by
  have h0 := h
  obtain ⟨a, cap, rfl, h1, h2, h3⟩ := h
  have hle := runEnd_le bl cs i hi
  go_enter Tryz.func30, Tryz.ntmps30
  go_wp2_with fail
  refine (run_blank h0 i hi).mono ?_
  rintro e w' ⟨rfl, rfl⟩
  have HP : Hid (passTo cs i = if runEnd bl cs i < cs.length ∧ cs.getD (runEnd bl cs i) 0 = 9053 then cs.length else runEnd bl cs i) := rfl
  generalize runEnd bl cs i = j at *
  by_cases hlt : j < cs.length
  · rcases h3 with h3 | ⟨b, off, rfl, hb, hc⟩
    · omega
    have hcj := hc j hlt
    clear hc h0
    generalize hC : cs.getD j 0 = C at *
    by_cases hr : C = 9053
    · have HE : Hid (passTo cs i = cs.length) := by unfold Hid; rw [HP.out, if_pos ⟨hlt, hr⟩]
      have e1 : (C == 9053) = true := by rw [beq_iff_eq]; exact hr
      clear hr HP
      go_wp2
      go_ret
      exact ⟨by rw [HE.out]; rfl, rfl⟩
    · have HE : Hid (passTo cs i = j) := by unfold Hid; rw [HP.out, if_neg (fun h => hr h.2)]
      have e1 : (C == 9053) = false := by rw [beq_eq_false_iff_ne]; exact hr
      clear hr HP
      go_wp2
      go_ret
      exact ⟨by rw [HE.out]; rfl, rfl⟩
  · have HE : Hid (passTo cs i = j) := by unfold Hid; rw [HP.out, if_neg (fun h => hlt h.1)]
    clear HP
    go_wp2
    go_ret
    exact ⟨by rw [HE.out]; rfl, rfl⟩

section
variable {w : World} {cs : List Int} {b off cap : Nat}
set_option maxRecDepth 100000 in
set_option maxHeartbeats 1600000 in
theorem piece_all (kd : Int) (hk : cs.length ≤ cap) (hcap : cap ≤ 9223372036854775807) (h0 : 0 < cs.length) (hc : ∀ j, j < cs.length → w.cell? ⟨b, off + j, none⟩ = some (.int .i32 (cs.getD j 0))) (hlt : b < w.heap.size) :
    Calls Tryz.prog 60 #[.int .u8 kd, .slice (some ⟨b, off, none⟩) cs.length cap, .int .i64 0, .int .i64 cs.length] w fun e w' => e = .returned (.agg #[.int .u8 kd, .string (runesBytes cs), .int .i64 0, .slice none 0 0, .slice none 0 0]) ∧ Below w.heap.size w w' := by
  have kk := below_alloc w (.cells #[.int .u8 0, .string ⟨#[]⟩, .int .i64 0, .slice none 0 0, .slice none 0 0] 40)
  have hcv := run_convert_runes (P := Tryz.prog) (w.alloc (.cells #[.int .u8 0, .string ⟨#[]⟩, .int .i64 0, .slice none 0 0, .slice none 0 0] 40)) 43 9 21 ⟨b, off, none⟩ cs.length cap cs (Nat.le_refl _) Tryz.underlying43 Tryz.underlying21 Tryz.underlying9 (fun j hj => by
    have e : ((⟨b, off, none⟩ : Addr).add j) = ⟨b, off + j, none⟩ := by simp [Addr.add]
    rw [e]
    exact (kk.cell (p := ⟨b, off + j, none⟩) hlt).trans (hc j hj))
  rw [List.take_length] at hcv
  go_enter Tryz.func60, Tryz.ntmps60
  go_wp2
  have R := boxA_new w #[.int .u8 kd, .string (runesBytes cs), .int .i64 0, .slice none 0 0, .slice none 0 0] 40
  have r0 := R.cell 0 rfl
  have r1 := R.cell 1 rfl
  have r2 := R.cell 2 rfl
  have r3 := R.cell 3 rfl
  have r4 := R.cell 4 rfl
  refine bodyPost_ret (v := .agg #[.int .u8 kd, .string (runesBytes cs), .int .i64 0, .slice none 0 0, .slice none 0 0]) (by simp [results, Tryz.results60, go_sem, r0, r1, r2, r3, r4]) rfl ?_
  exact ⟨rfl, below_alloc _ _⟩
end

section
variable {w w' : World} {base k R ty : Nat} {b : Bool} {ns ds : List Int} {u0 u1 u2 u3 u4 : Value}
theorem NumAt.setC (h : NumAt base w k b ns ds) (hR : R < base) (i : Nat) (u : Value) : NumAt base (w.setCell ⟨R, i, none⟩ u) k b ns ds := by
  obtain ⟨h0, x1, y1, x2, y2, h1, h2, h3⟩ := h
  have hne : R ≠ k := by omega
  exact ⟨h0, x1, y1, x2, y2, h1.other (p := ⟨R, i, none⟩) hne _, h2.setCell (a := ⟨R, i, none⟩) (ownBlock_ne h2 hR) _, h3.setCell (a := ⟨R, i, none⟩) (ownBlock_ne h3 hR) _⟩
theorem BoxA.set34 (h : BoxA w R ty #[u0, u1, u2, u3, u4]) (u v : Value) : BoxA ((w.setCell ⟨R, 3, none⟩ u).setCell ⟨R, 4, none⟩ v) R ty #[u0, u1, u2, u, v] := by
  unfold BoxA at h ⊢
  simp [World.setCell, Array.getElem?_modify, h]
theorem BoxA.set5 (h : BoxA w R ty #[u0, u1, u2, u3, u4]) (v0 v1 v2 v3 v4 : Value) : BoxA (((((w.setCell ⟨R, 0, none⟩ v0).setCell ⟨R, 1, none⟩ v1).setCell ⟨R, 2, none⟩ v2).setCell ⟨R, 3, none⟩ v3).setCell ⟨R, 4, none⟩ v4) R ty #[v0, v1, v2, v3, v4] := by
  unfold BoxA at h ⊢
  simp [World.setCell, Array.getElem?_modify, h]
theorem Below.set5 (h : Below base w w') (hB : base ≤ R) (v0 v1 v2 v3 v4 : Value) : Below base w (((((w'.setCell ⟨R, 0, none⟩ v0).setCell ⟨R, 1, none⟩ v1).setCell ⟨R, 2, none⟩ v2).setCell ⟨R, 3, none⟩ v3).setCell ⟨R, 4, none⟩ v4) :=
  ((((h.setCell (p := ⟨R, 0, none⟩) hB _).setCell (p := ⟨R, 1, none⟩) hB _).setCell (p := ⟨R, 2, none⟩) hB _).setCell (p := ⟨R, 3, none⟩) hB _).setCell (p := ⟨R, 4, none⟩) hB _
theorem NumAt.set5 (h : NumAt base w k b ns ds) (hR : R < base) (v0 v1 v2 v3 v4 : Value) : NumAt base (((((w.setCell ⟨R, 0, none⟩ v0).setCell ⟨R, 1, none⟩ v1).setCell ⟨R, 2, none⟩ v2).setCell ⟨R, 3, none⟩ v3).setCell ⟨R, 4, none⟩ v4) k b ns ds :=
  ((((h.setC hR 0 v0).setC hR 1 v1).setC hR 2 v2).setC hR 3 v3).setC hR 4 v4
end

theorem run_number1 {B : Nat} {w : World} {v : Value} {cs : List Int} (h : RdR B w v cs) (h0 : 0 < cs.length) (hin : ∀ k, 1 ≤ k → k < cs.length → inn (cs.getD k 0) = true) :
    Calls Tryz.prog 52 #[v, .int .i64 1, .func (.func 83) #[] #[]] w fun e w' => e = .returned (.int .i64 (cs.length : Int)) ∧ w' = w := by
  have e := runEnd_is (p := inn) (cs := cs) (i := 1) (j := cs.length) (by omega) (Nat.le_refl _) hin (Or.inl rfl)
  have := run_number h 1 (by omega)
  rw [e] at this
  exact this

section
variable {w : World} {cs : List Int} {b off cap : Nat} {bx : Bool} {xn xd : List Int}
/-- A number's token. -/
def TokAns (w : World) (n : Nat) (T : ByteArray) (bx : Bool) (xn xd : List Int) (e : Ending) (w' : World) : Prop :=
  ∃ k, e = .returned (.tuple #[.agg #[.int .u8 1, .string T, .int .i64 0, .slice none 0 0, .slice (some ⟨k, 0, none⟩) 1 1], .int .i64 n, .int .i64 0]) ∧ NumAt w.heap.size w' k bx xn xd ∧ Below w.heap.size w w'

set_option maxRecDepth 100000 in
set_option maxHeartbeats 16000000 in
theorem numberAt_num (hk : cs.length ≤ cap) (hcap : cap ≤ 9223372036854775807) (h0 : 0 < cs.length) (hc : ∀ j, j < cs.length → w.cell? ⟨b, off + j, none⟩ = some (.int .i32 (cs.getD j 0))) (hlt : b < w.heap.size)
    (hin : ∀ k, 1 ≤ k → k < cs.length → inn (cs.getD k 0) = true) (hT : runesBytes cs = ratText bx xn xd) (hr : RightP bx xn xd) :
    Calls Tryz.prog 55 #[.slice (some ⟨b, off, none⟩) cs.length cap, .int .i64 0] w fun e w' => TokAns w cs.length (runesBytes cs) bx xn xd e w' := by
  have HT : Hid (runesBytes cs = ratText bx xn xd ∧ RightP bx xn xd) := ⟨hT, hr⟩
  have HI : Hid (∀ k, 1 ≤ k → k < cs.length → inn (cs.getD k 0) = true) := hin
  clear hT hr hin
  have k0 := below_alloc w (.cells #[.int .u8 0, .string ⟨#[]⟩, .int .i64 0, .slice none 0 0, .slice none 0 0] 40)
  have R := boxA_new w #[.int .u8 0, .string ⟨#[]⟩, .int .i64 0, .slice none 0 0, .slice none 0 0] 40
  have s0 : w.heap.size < (w.alloc (.cells #[.int .u8 0, .string ⟨#[]⟩, .int .i64 0, .slice none 0 0, .slice none 0 0] 40)).heap.size := by simp
  have HC : Hid (∀ j, j < cs.length → (w.alloc (.cells #[.int .u8 0, .string ⟨#[]⟩, .int .i64 0, .slice none 0 0, .slice none 0 0] 40)).cell? ⟨b, off + j, none⟩ = some (.int .i32 (cs.getD j 0))) := fun j hj => (k0.cell (p := ⟨b, off + j, none⟩) hlt).trans (hc j hj)
  clear hc
  go_enter Tryz.func55, Tryz.ntmps55
  go_wp2_with fail
  generalize hA : w.alloc (.cells #[.int .u8 0, .string ⟨#[]⟩, .int .i64 0, .slice none 0 0, .slice none 0 0] 40) = v at *
  clear hA
  have hR : RdR v.heap.size v (.slice (some ⟨b, off, none⟩) cs.length cap) cs := ⟨_, cap, rfl, hk, hcap, Or.inr ⟨b, off, rfl, by omega, HC.out⟩⟩
  refine (run_number1 hR h0 HI.out).mono ?_
  rintro e w1 ⟨rfl, rfl⟩
  go_wp2_with fail
  refine (piece_all 1 hk hcap h0 HC.out (by omega)).mono ?_
  rintro e w2 ⟨rfl, k2⟩
  obtain ⟨T, hTT⟩ : ∃ T, runesBytes cs = T := ⟨_, rfl⟩
  have HT2 : Hid (T = ratText bx xn xd) := by unfold Hid; rw [← hTT]; exact HT.out.1
  have HTc : Hid (runesBytes cs = T) := hTT
  rw [hTT]
  clear hTT HC hR
  have s2 := k2.size
  have kt := below_alloc w2 (.cells #[.int .u8 1, .string T, .int .i64 0, .slice none 0 0, .slice none 0 0] 40)
  have Tk := boxA_new w2 #[.int .u8 1, .string T, .int .i64 0, .slice none 0 0, .slice none 0 0] 40
  have st : w2.heap.size < (w2.alloc (.cells #[.int .u8 1, .string T, .int .i64 0, .slice none 0 0, .slice none 0 0] 40)).heap.size := by simp
  have t1 := Tk.cell 1 rfl
  go_wp2_with fail
  generalize hA : w2.alloc (.cells #[.int .u8 1, .string T, .int .i64 0, .slice none 0 0, .slice none 0 0] 40) = w3 at *
  clear hA t1
  refine (parse_rat T _).mono ?_
  intro e w4 hp
  obtain ⟨bK, nk, dk, ek, HK, k4, z1, i1, z2, i2, rfl, r1, r2⟩ := hp.spec
  clear hp
  obtain ⟨rfl, rfl, rfl, rfl⟩ := TextSpec.back HT.out.2 (by rw [← HT2.out]; exact HK.out)
  clear HK
  have s4 := k4.size
  have K := nvar_new (b := bK) r1 r2
  have kK := below_alloc w4 (.cells #[.bool bK, .slice z1 nk.length i1, .slice z2 dk.length i2] 24)
  have sK := kK.size
  obtain ⟨K0, K1, K2⟩ := K.cells
  go_wp2_with fail
  clear K0 K1 K2 r1 r2
  generalize hA : w4.alloc (.cells #[.bool bK, .slice z1 nk.length i1, .slice z2 dk.length i2] 24) = w5 at *
  clear hA
  refine (arrRat_any K.rn K.rd).mono ?_
  rintro e w6 (⟨_, k, rfl, hN, k6⟩ | ⟨hno, _⟩)
  case inr => exact absurd HT.out.2 hno
  have s6 := k6.size
  have t6 : Below w3.heap.size w3 w6 := (k4.trans (kK.mono s4)).trans (k6.mono (by omega))
  have Tk6 := Tk.below t6 (by omega)
  have q3 := Tk6.cell 3 rfl
  have q4 := Tk6.cell 4 rfl
  have f3 := Tk6.frozen 3
  have f4 := Tk6.frozen 4
  have Tk7 := Tk6.set34 (.slice none 0 0) (.slice (some ⟨k, 0, none⟩) 1 1)
  have m0 := Tk7.cell 0 rfl
  have m1 := Tk7.cell 1 rfl
  have m2 := Tk7.cell 2 rfl
  have m3 := Tk7.cell 3 rfl
  have m4 := Tk7.cell 4 rfl
  have T6 : Below w.heap.size w w6 := (((k0.trans (k2.mono (by omega))).trans (kt.mono (by omega))).trans (t6.mono (by omega)))
  have R6 := ((R.below k2 s0).below kt (by omega)).below t6 (by omega)
  have hRT : w2.heap.size ≠ w.heap.size := by omega
  have R7 := (R6.other (p := ⟨w2.heap.size, 3, none⟩) hRT (.slice none 0 0)).other (p := ⟨w2.heap.size, 4, none⟩) hRT (.slice (some ⟨k, 0, none⟩) 1 1)
  have n0 := R7.cell 0 rfl
  have n1 := R7.cell 1 rfl
  have n2 := R7.cell 2 rfl
  have n3 := R7.cell 3 rfl
  have n4 := R7.cell 4 rfl
  have o0 := R7.frozen 0
  have o1 := R7.frozen 1
  have o2 := R7.frozen 2
  have o3 := R7.frozen 3
  have o4 := R7.frozen 4
  go_wp2
  have R8 := R7.set5 (.int .u8 1) (.string T) (.int .i64 0) (.slice none 0 0) (.slice (some ⟨k, 0, none⟩) 1 1)
  have x0 := R8.cell 0 rfl
  have x1 := R8.cell 1 rfl
  have x2 := R8.cell 2 rfl
  have x3 := R8.cell 3 rfl
  have x4 := R8.cell 4 rfl
  refine bodyPost_ret (v := .tuple #[.agg #[.int .u8 1, .string T, .int .i64 0, .slice none 0 0, .slice (some ⟨k, 0, none⟩) 1 1], .int .i64 cs.length, .int .i64 0]) (by simp [results, Tryz.results55, go_sem, x0, x1, x2, x3, x4]) rfl ?_
  refine ⟨k, by rw [HTc.out], ?_, ?_⟩
  · exact (((hN.setC (R := w2.heap.size) (by omega) 3 _).setC (R := w2.heap.size) (by omega) 4 _).set5 (by omega) _ _ _ _ _).mono (by omega)
  · exact Below.set5 ((T6.setCell (p := ⟨w2.heap.size, 3, none⟩) (show w.heap.size ≤ w2.heap.size by omega) _).setCell (p := ⟨w2.heap.size, 4, none⟩) (show w.heap.size ≤ w2.heap.size by omega) _) (Nat.le_refl _) _ _ _ _ _

set_option maxRecDepth 100000 in
set_option maxHeartbeats 16000000 in
theorem next_num (hk : cs.length ≤ cap) (hcap : cap ≤ 9223372036854775807) (h0 : 0 < cs.length) (hc : ∀ j, j < cs.length → w.cell? ⟨b, off + j, none⟩ = some (.int .i32 (cs.getD j 0))) (hlt : b < w.heap.size)
    (hfirst : cs.getD 0 0 = 175 ∨ dg (cs.getD 0 0) = true) (hin : ∀ k, 1 ≤ k → k < cs.length → inn (cs.getD k 0) = true) (hT : runesBytes cs = ratText bx xn xd) (hr : RightP bx xn xd) :
    Calls Tryz.prog 31 #[.slice (some ⟨b, off, none⟩) cs.length cap, .int .i64 0] w fun e w' => TokAns w cs.length (runesBytes cs) bx xn xd e w' := by
  have HT : Hid (runesBytes cs = ratText bx xn xd ∧ RightP bx xn xd) := ⟨hT, hr⟩
  have HI : Hid (∀ k, 1 ≤ k → k < cs.length → inn (cs.getD k 0) = true) := hin
  clear hT hr hin
  have k0 := below_alloc w (.cells #[.int .u8 0, .string ⟨#[]⟩, .int .i64 0, .slice none 0 0, .slice none 0 0] 40)
  have R := boxA_new w #[.int .u8 0, .string ⟨#[]⟩, .int .i64 0, .slice none 0 0, .slice none 0 0] 40
  have s0 : w.heap.size < (w.alloc (.cells #[.int .u8 0, .string ⟨#[]⟩, .int .i64 0, .slice none 0 0, .slice none 0 0] 40)).heap.size := by simp
  have HC : Hid (∀ j, j < cs.length → (w.alloc (.cells #[.int .u8 0, .string ⟨#[]⟩, .int .i64 0, .slice none 0 0, .slice none 0 0] 40)).cell? ⟨b, off + j, none⟩ = some (.int .i32 (cs.getD j 0))) := fun j hj => (k0.cell (p := ⟨b, off + j, none⟩) hlt).trans (hc j hj)
  have hc0 : (w.alloc (.cells #[.int .u8 0, .string ⟨#[]⟩, .int .i64 0, .slice none 0 0, .slice none 0 0] 40)).cell? ⟨b, off, none⟩ = some (.int .i32 (cs.getD 0 0)) := HC.out 0 h0
  clear hc
  generalize cs.getD 0 0 = C at *
  go_enter Tryz.func31, Tryz.ntmps31
  go_upto_region 2 with fail
  go_cut [13] from 14 to 19 (fun q wx => q = .bool true ∧ wx = w.alloc (.cells #[.int .u8 0, .string ⟨#[]⟩, .int .i64 0, .slice none 0 0, .slice none 0 0] 40))
  case first =>
    by_cases h175 : C = 175
    · have e1 : (C == 175) = true := by rw [beq_iff_eq]; exact h175
      clear hfirst h175
      go_wp2_with fail
      go_meet
      exact ⟨rfl, rfl⟩
    · have e1 : (C == 175) = false := by rw [beq_eq_false_iff_ne]; exact h175
      have hd : dg C = true := hfirst.resolve_left h175
      clear hfirst h175
      go_wp2_with fail
      refine (isDigit_any C _).mono ?_
      rintro e w' ⟨rfl, rfl⟩
      rw [hd]
      go_wp2_with fail
      go_meet
      exact ⟨rfl, rfl⟩
  case rest =>
    obtain ⟨rfl, rfl⟩ := hcut
    clear hfirst hc0
    go_wp2_with fail
    generalize hA : w.alloc (.cells #[.int .u8 0, .string ⟨#[]⟩, .int .i64 0, .slice none 0 0, .slice none 0 0] 40) = v at *
    clear hA
    refine (numberAt_num hk hcap h0 HC.out (by omega) HI.out HT.out.1 HT.out.2).mono ?_
    rintro e w1 ⟨k, rfl, hN, k1⟩
    obtain ⟨T, hTT⟩ : ∃ T, runesBytes cs = T := ⟨_, rfl⟩
    have HTc : Hid (runesBytes cs = T) := hTT
    rw [hTT]
    clear hTT
    have R7 := R.below k1 s0
    have n0 := R7.cell 0 rfl
    have n1 := R7.cell 1 rfl
    have n2 := R7.cell 2 rfl
    have n3 := R7.cell 3 rfl
    have n4 := R7.cell 4 rfl
    have o0 := R7.frozen 0
    have o1 := R7.frozen 1
    have o2 := R7.frozen 2
    have o3 := R7.frozen 3
    have o4 := R7.frozen 4
    go_wp2
    have R8 := R7.set5 (.int .u8 1) (.string T) (.int .i64 0) (.slice none 0 0) (.slice (some ⟨k, 0, none⟩) 1 1)
    have x0 := R8.cell 0 rfl
    have x1 := R8.cell 1 rfl
    have x2 := R8.cell 2 rfl
    have x3 := R8.cell 3 rfl
    have x4 := R8.cell 4 rfl
    refine bodyPost_ret (v := .tuple #[.agg #[.int .u8 1, .string T, .int .i64 0, .slice none 0 0, .slice (some ⟨k, 0, none⟩) 1 1], .int .i64 cs.length, .int .i64 0]) (by simp [results, Tryz.results31, go_sem, x0, x1, x2, x3, x4]) rfl ?_
    exact ⟨k, by rw [HTc.out], (hN.set5 s0 _ _ _ _ _).mono (by omega), Below.set5 (k0.trans (k1.mono (by omega))) (Nat.le_refl _) _ _ _ _ _⟩
end
end Go.Proofs.YtahfllppbfnpfaaGreatDoor

/- lex.Runes of a text without bytes that are none. -/
namespace Go.Proofs.YtahfllppbfnpfaaGreatDoor
set_option linter.unusedVariables false
set_option linter.unusedSimpArgs false
open Go.RowKit

/-- The characters of a text from a place on. -/
def decs (s : ByteArray) : Nat → Nat → List Int
  | 0, _ => []
  | f + 1, pos => if pos < s.size then ((Utf8.decode s pos).1 : Int) :: decs s f (pos + (Utf8.decode s pos).2) else []
def OwnR (base : Nat) (w : World) (v : Value) (cs : List Int) : Prop := w.ownsRow base 21 1 v cs.length (cs.map (Value.int .i32))
theorem info_i32 : (Tryz.prog.info? 21).map (fun i => (i.zero, i.size, i.bytes)) = some (some (.int .i32 0), 1, 4) := by kernel_rfl
theorem OwnR.form {base : Nat} {w : World} {v : Value} {cs : List Int} (h : OwnR base w v cs) : ∃ a c, v = .slice a cs.length c := by
  obtain ⟨_, h | ⟨g, cap, cur, hv, _⟩⟩ := h
  · exact ⟨none, 0, by rw [h.1, h.2]⟩
  · exact ⟨_, cap, hv⟩
theorem OwnR.mono {base base' : Nat} {w : World} {v : Value} {cs : List Int} (h : OwnR base w v cs) (hB : base' ≤ base) : OwnR base' w v cs := by
  obtain ⟨h1, h | ⟨g, cap, cur, hv, hg, r⟩⟩ := h
  · exact ⟨h1, Or.inl h⟩
  · exact ⟨h1, Or.inr ⟨g, cap, cur, hv, by omega, r⟩⟩
theorem OwnR.below {base B : Nat} {w w' : World} {v : Value} {cs : List Int} (h : OwnR base w v cs) (hb : Below B w w') (hB : w.heap.size ≤ B) : OwnR base w' v cs := by
  obtain ⟨h1, h | ⟨g, cap, cur, hv, hg, hh, r⟩⟩ := h
  · exact ⟨h1, Or.inl h⟩
  · exact ⟨h1, Or.inr ⟨g, cap, cur, hv, hg, by rw [hb.block g (Nat.lt_of_lt_of_le (lt_of_block hh) hB)]; exact hh, r⟩⟩
theorem OwnR.rd {base : Nat} {w : World} {v : Value} {cs : List Int} (h : OwnR base w v cs) (h0 : 0 < cs.length) : ∃ g cap, v = .slice (some ⟨g, 0, none⟩) cs.length cap ∧ g < w.heap.size ∧ cs.length ≤ cap ∧ cap ≤ 9223372036854775807 ∧ ∀ j, j < cs.length → w.cell? ⟨g, 0 + j, none⟩ = some (.int .i32 (cs.getD j 0)) := by
  have hrow := h
  obtain ⟨_, h | ⟨g, cap, cur, hv, hg, hh, h1, h2, _, _⟩⟩ := h
  · omega
  · subst hv
    refine ⟨g, cap, rfl, lt_of_block hh, h1, by unfold maxLen at h2; omega, fun j hj => ?_⟩
    have := hrow.cellAt j (by omega)
    rw [Nat.zero_add, this]
    simp [List.getD, hj]
theorem OwnR.empty {base : Nat} {w : World} {v : Value} (h : OwnR base w v []) : ∃ a c, v = .slice a 0 c := h.form

set_option maxRecDepth 100000 in
set_option maxHeartbeats 6400000 in
theorem runes_any (s : ByteArray) (w : World) (hs : s.size ≤ 1000000) (hno : ∀ c ∈ decs s s.size 0, ¬ c = 65533) :
    Calls Tryz.prog 12 #[.string s] w fun e w' => ∃ cs a c, e = .returned (.tuple #[.slice a cs.length c, .int .i64 0, .int .i64 0]) ∧ OwnR w.heap.size w' (.slice a cs.length c) cs ∧ Hid (cs = decs s s.size 0) ∧ Below w.heap.size w w' := by
  obtain ⟨i0, hi, hz0, hz1, hz2⟩ := info_parts info_i32
  have HNO : Hid (∀ c ∈ decs s s.size 0, ¬ c = 65533) := hno
  clear hno
  go_enter Tryz.func12, Tryz.ntmps12
  go_wp2
  go_loopw [5] (fun out wr => ∃ (pos fuel : Nat) (cs : List Int) (a : Option Addr) (c : Nat), out = .slice a cs.length c ∧ OwnR (w.heap.size + 1) wr (.slice a cs.length c) cs ∧ wr.heap[w.heap.size]? = some (.stringIter s pos) ∧ Hid (cs ++ decs s fuel pos = decs s s.size 0) ∧ s.size ≤ pos + fuel ∧ cs.length ≤ pos ∧ pos ≤ s.size ∧ Below w.heap.size w wr) (fun _ wr => s.size - wr.iterPos w.heap.size)
  case atStart =>
    refine ⟨0, s.size, [], none, 0, rfl, World.ownsRow_nil _ _ _ _, ?_, rfl, by omega, by simp, by omega, below_alloc _ _⟩
    exact World.iter_heap w s 0
  case round =>
    obtain ⟨pos, fuel, cs, a, c, rfl, hO, hit, HD, hf, hcl, hps, hb⟩ := hrel
    have hsz : w.heap.size < wr.heap.size := (Array.getElem?_eq_some_iff.1 hit).1
    by_cases hp : pos < s.size
    · have hnx : ∀ ty, (Instr.next (.pointer (some ⟨w.heap.size, 0, none⟩)) true ty).run Tryz.prog wr = _ := fun ty => Lib.run_next_any_at wr w.heap.size s pos ty hit hp
      have hwd := Lib.decode_width_pos s pos hp
      have hwe := dec_end s pos hp
      obtain ⟨f, rfl⟩ : ∃ f, fuel = f + 1 := ⟨fuel - 1, by omega⟩
      have HS : Hid (decs s (f + 1) pos = ((Utf8.decode s pos).1 : Int) :: decs s f (pos + (Utf8.decode s pos).2)) := by
        unfold Hid
        rw [decs, if_pos hp]
      have hC : ((((Utf8.decode s pos).1 : Nat) : Int) == 65533) = false := by
        rw [beq_eq_false_iff_ne]
        refine HNO.out _ ?_
        rw [← HD.out, HS.out]
        simp
      have hit2 := Lib.iterAt_heap wr w.heap.size s pos (pos + (Utf8.decode s pos).2) hit
      have hb2 := Lib.below_iterAt hb (k := w.heap.size) (by omega) s (pos + (Utf8.decode s pos).2)
      have hO2 : OwnR (w.heap.size + 1) (wr.iterAt w.heap.size s (pos + (Utf8.decode s pos).2)) (.slice a cs.length c) cs := ownsRow_iterAt hO (by omega) s _
      have HQ : Hid (wr.iterPos w.heap.size = pos) := by unfold Hid; simp only [World.iterPos, hit]
      generalize (Utf8.decode s pos).2 = n at *
      generalize (Utf8.decode s pos).1 = C at *
      generalize wr.iterAt w.heap.size s (pos + n) = W2 at *
      have hsz2 : w.heap.size < W2.heap.size := (Array.getElem?_eq_some_iff.1 hit2).1
      clear hit hb hO
      go_wp2_with (at_builtin; refine wpList_append_own _ rfl _ _ 43 rfl (w.heap.size + 1) 21 i0 (.int .i32 0) 1 4 Tryz.underlying43 hi hz0 hz1 hz2 rfl (by decide) _ _ _ rfl (hO2.alloc _) ⟨W2.heap.size, 0, none⟩ 1 1 [.int .i32 C] rfl rfl ?c1 ?c2 ?c3 ?c4 ?c5 ?_)
      case c1 =>
        intro j u hj
        match j, hj with
        | 0, hj => simp at hj; subst hj; simp [Addr.add]
      case c2 => intro u hu; simp at hu; subst hu; rfl
      case c3 => unfold maxLen; omega
      case c4 => omega
      case c5 => simp; omega
      intro v' w1 hown' hgrow _
      have hO3 : OwnR (w.heap.size + 1) w1 v' (cs ++ [(C : Int)]) := by
        unfold OwnR
        rw [List.length_append, List.map_append]; exact hown'
      obtain ⟨a2, c2, rfl⟩ := hO3.form
      have hrow : ∀ k, (Value.slice a cs.length c).ownBlock = some k → w.heap.size + 1 ≤ k := fun k hk => (hO2.lt k hk).1
      have hit3 : w1.heap[w.heap.size]? = some (.stringIter s (pos + n)) := by
        rw [hgrow.block w.heap.size (by simp; omega) (fun e => by have := hrow _ e.symm; omega), Below.heap_alloc _ _ _ hsz2]
        exact hit2
      have hb3 : Below w.heap.size w w1 := (hb2.alloc (by omega) _).grown hgrow (by simp; omega) (fun k hk => by have := hrow k hk; omega)
      clear hown' hgrow hO2 hit2 hb2 hrow
      go_wp2
      go_roundw
      case rel => exact ⟨pos + n, f, cs ++ [(C : Int)], a2, c2, (by first | rfl | simp), hO3, hit3, (by unfold Hid; rw [List.append_assoc, List.singleton_append, ← HS.out]; exact HD.out), by omega, (by simp; omega), by omega, hb3⟩
      case measure =>
        rw [HQ.out]
        simp only [World.iterPos, hit3]
        omega
    · have hnx : ∀ ty, (Instr.next (.pointer (some ⟨w.heap.size, 0, none⟩)) true ty).run Tryz.prog wr = _ := fun ty => Lib.run_next_end_at wr w.heap.size s pos ty hit hp
      have HE : Hid (cs = decs s s.size 0) := by
        unfold Hid
        rw [← HD.out]
        cases fuel with
        | zero => simp [decs]
        | succ f => simp [decs, hp]
      go_wp2
      refine bodyPost_ret (v := .tuple #[.slice a cs.length c, .int .i64 0, .int .i64 0]) (by simp [results, Tryz.results12, go_sem]) rfl ?_
      exact ⟨cs, a, c, rfl, OwnR.mono hO (by omega), HE, hb⟩
end Go.Proofs.YtahfllppbfnpfaaGreatDoor

/- The characters of a number's text. -/
namespace Go.Proofs.YtahfllppbfnpfaaGreatDoor
set_option linter.unusedVariables false
set_option linter.unusedSimpArgs false
open Go.RowKit

def ofB (l : List UInt8) : List Int := l.map (fun b => (b.toNat : Int))
theorem decs_ascii (s : ByteArray) : ∀ (f pos : Nat), s.size ≤ pos + f → pos ≤ s.size → (∀ j, pos ≤ j → j < s.size → (s.get! j).toNat < 128) → decs s f pos = ofB (s.data.toList.drop pos)
  | 0, pos, h, hp, _ => by
    have : s.data.toList.length = s.size := by simp
    rw [decs, List.drop_eq_nil_of_le (by omega)]; rfl
  | f + 1, pos, h, hp, ha => by
    have hl : s.data.toList.length = s.size := by simp
    rw [decs]
    by_cases hlt : pos < s.size
    · rw [if_pos hlt]
      have hd := dec_ascii s pos hlt (ha pos (Nat.le_refl _) hlt)
      have hg := get_data s pos hlt
      rw [List.getElem?_eq_getElem (by omega)] at hg
      rw [hd, List.drop_eq_getElem_cons (by omega), Option.some.inj hg]
      simp only
      rw [decs_ascii s f (pos + 1) (by omega) (by omega) (fun j h1 h2 => ha j (by omega) h2)]
      rfl
    · rw [if_neg hlt, List.drop_eq_nil_of_le (by omega)]; rfl

theorem runesBytes_from (ns : List Int) : ∀ s : ByteArray, ns.foldl (fun r n => r ++ Utf8.encode n) s = s ++ runesBytes ns := by
  induction ns with
  | nil => intro s; simp [runesBytes]
  | cons n ns ih =>
    intro s
    have e : runesBytes (n :: ns) = (ByteArray.empty ++ Utf8.encode n) ++ runesBytes ns := by
      rw [runesBytes, List.foldl_cons, ih]
    rw [List.foldl_cons, ih, e]
    simp [ByteArray.append_assoc]
theorem runesBytes_cons (n : Int) (ns : List Int) : (runesBytes (n :: ns)).data.toList = (Utf8.encode n).data.toList ++ (runesBytes ns).data.toList := by
  rw [runesBytes, List.foldl_cons, runesBytes_from]
  simp
theorem encode_ascii (c : Nat) (h : c < 128) : (Utf8.encode (c : Int)).data.toList = [UInt8.ofNat c] := by
  have hv : Utf8.valid (c : Int) = true := by
    simp [Utf8.valid]; omega
  unfold Utf8.encode
  simp only [hv, if_true, Int.toNat_natCast]
  rw [if_pos (by omega)]
theorem runesBytes_ascii (l : List UInt8) (h : ∀ b ∈ l, b.toNat < 128) : (runesBytes (ofB l)).data.toList = l := by
  induction l with
  | nil => rfl
  | cons b l ih =>
    have e : ofB (b :: l) = (b.toNat : Int) :: ofB l := rfl
    rw [e, runesBytes_cons, encode_ascii _ (h b (by simp)), ih (fun c hc => h c (by simp [hc]))]
    simp

theorem ofB_get (l : List UInt8) (k : Nat) (hk : k < l.length) : (ofB l).getD k 0 = ((l[k]).toNat : Int) := by
  unfold ofB
  simp [List.getD, hk]
theorem dg_of {x : UInt8} (h : 48 ≤ x.toNat ∧ x.toNat ≤ 57) : dg (x.toNat : Int) = true := by
  unfold dg; simp; omega
/-- A number's text behind its sign. -/
def numTail (ns ds : List Int) : List UInt8 := Lib.decDigits (val ns).toNat ++ (if ds = [1] then [] else 114 :: Lib.decDigits (val ds).toNat)
theorem numTail_in (ns ds : List Int) : ∀ x ∈ numTail ns ds, (48 ≤ x.toNat ∧ x.toNat ≤ 57) ∨ x.toNat = 114 := by
  intro x hx
  unfold numTail at hx
  rw [List.mem_append] at hx
  rcases hx with hx | hx
  · exact Or.inl ((dval_decDigits _).2.1 x hx)
  · by_cases h1 : ds = [1]
    · rw [if_pos h1] at hx; simp at hx
    · rw [if_neg h1] at hx
      rcases List.mem_cons.1 hx with rfl | hx
      · exact Or.inr rfl
      · exact Or.inl ((dval_decDigits _).2.1 x hx)
theorem numTail_first (ns ds : List Int) : ∃ x l, numTail ns ds = x :: l ∧ 48 ≤ x.toNat ∧ x.toNat ≤ 57 := by
  unfold numTail
  cases h : Lib.decDigits (val ns).toNat with
  | nil => have := (dval_decDigits (val ns).toNat).2.2; rw [h] at this; simp at this
  | cons x k => exact ⟨x, _, rfl, (dval_decDigits (val ns).toNat).2.1 x (by rw [h]; simp)⟩
theorem inn_of {x : UInt8} (h : (48 ≤ x.toNat ∧ x.toNat ≤ 57) ∨ x.toNat = 114) : inn (x.toNat : Int) = true := by
  unfold inn
  rcases h with h | h
  · rw [dg_of h]; rfl
  · rw [h]; decide
theorem get_of_list (s : ByteArray) {l k : List UInt8} (h : s.data.toList = k ++ l) (j : Nat) (hj : k.length ≤ j) (hs : j < s.size) : s.get! j ∈ l := by
  have hg := get_data s j hs
  rw [h, List.getElem?_append_right hj] at hg
  exact List.mem_of_getElem? hg

/-- What the characters of a number's text are. -/
theorem ratText_decs (b : Bool) (ns ds : List Int) : decs (ratText b ns ds) (ratText b ns ds).size 0 = (if b = true then [175] else []) ++ ofB (numTail ns ds) := by
  have hl := ratText_list b ns ds
  obtain ⟨s, hs⟩ : ∃ s, ratText b ns ds = s := ⟨_, rfl⟩
  rw [hs] at hl ⊢
  have hsz : s.data.toList.length = s.size := by simp
  have ha := numTail_in ns ds
  cases b with
  | false =>
    simp only [Bool.false_eq_true, if_false, List.nil_append] at hl ⊢
    have hl' : s.data.toList = [] ++ numTail ns ds := hl
    rw [decs_ascii s s.size 0 (by omega) (by omega) (fun j _ h2 => by have := ha _ (get_of_list s hl' j (by simp) h2); omega), List.drop_zero, hl]
    rfl
  | true =>
    simp only [if_true] at hl ⊢
    have hl' : s.data.toList = [194, 175] ++ numTail ns ds := hl
    have hm : isMac s.data.toList = true := by rw [hl']; rfl
    have h2 : 2 ≤ s.size := by rw [← hsz, hl']; simp
    have hd := dec_mac s (by omega)
    have e1 := hd.1.2 hm
    have e2 := hd.2 e1
    obtain ⟨f, hf⟩ : ∃ f, s.size = f + 1 := ⟨s.size - 1, by omega⟩
    rw [hf, decs, if_pos (by omega), e1, e2, Nat.zero_add]
    rw [decs_ascii s f 2 (by omega) (by omega) (fun j h1 h2 => by have := ha _ (get_of_list s hl' j (by simpa using h1) h2); omega), hl']
    rfl
theorem ratText_runes (b : Bool) (ns ds : List Int) : ∃ cs, cs = decs (ratText b ns ds) (ratText b ns ds).size 0 ∧
    (∀ c ∈ cs, ¬ c = 65533) ∧ 0 < cs.length ∧ (cs.getD 0 0 = 175 ∨ dg (cs.getD 0 0) = true) ∧ (∀ k, 1 ≤ k → k < cs.length → inn (cs.getD k 0) = true) ∧ runesBytes cs = ratText b ns ds ∧ bl (cs.getD 0 0) = false ∧ ¬ cs.getD 0 0 = 9053 := by
  refine ⟨_, rfl, ?_⟩
  rw [ratText_decs]
  have hl := ratText_list b ns ds
  have ha := numTail_in ns ds
  obtain ⟨x, l, hx, hx1, hx2⟩ := numTail_first ns ds
  have hmem : ∀ c ∈ ofB (numTail ns ds), 48 ≤ c ∧ c ≤ 114 := by
    intro c hc
    obtain ⟨y, hy, rfl⟩ := List.mem_map.1 hc
    have := ha y hy
    omega
  have hlt : ∀ y ∈ numTail ns ds, y.toNat < 128 := fun y hy => by have := ha y hy; omega
  have hext : ∀ {t : ByteArray} {m : List UInt8}, t.data.toList = m → (ratText b ns ds).data.toList = m → t = ratText b ns ds := fun h1 h2 => ByteArray.ext (Array.toList_inj.1 (h1.trans h2.symm))
  have hlen : (ofB (numTail ns ds)).length = (numTail ns ds).length := by simp [ofB]
  have hin : ∀ k, k < (numTail ns ds).length → inn ((ofB (numTail ns ds)).getD k 0) = true := fun k hk => by
    rw [ofB_get _ _ hk]
    exact inn_of (ha _ (List.getElem_mem hk))
  cases b with
  | false =>
    simp only [Bool.false_eq_true, if_false, List.nil_append] at hl ⊢
    have e0 : (ofB (numTail ns ds)).getD 0 0 = (x.toNat : Int) := by rw [hx]; rfl
    refine ⟨fun c hc => by have := hmem c hc; omega, by rw [hlen, hx]; simp, Or.inr (by rw [e0]; exact dg_of ⟨hx1, hx2⟩), fun k _ h2 => hin k (by omega), ?_, ?_, ?_⟩
    · exact hext (runesBytes_ascii _ hlt) hl
    · rw [e0]; unfold bl; simp; omega
    · rw [e0]; omega
  | true =>
    simp only [if_true] at hl ⊢
    refine ⟨?_, by simp, Or.inl rfl, ?_, ?_, (show bl (175 : Int) = false by decide), (show ¬ (175 : Int) = 9053 by decide)⟩
    · intro c hc
      rcases List.mem_cons.1 hc with rfl | hc
      · decide
      · have := hmem c hc; omega
    · intro k h1 h2
      obtain ⟨j, rfl⟩ : ∃ j, k = j + 1 := ⟨k - 1, by omega⟩
      have e : ([175] ++ ofB (numTail ns ds) : List Int).getD (j + 1) 0 = (ofB (numTail ns ds)).getD j 0 := by simp [List.getD]
      rw [e]
      refine hin j ?_
      simp at h2
      omega
    · refine hext (m := [194, 175] ++ numTail ns ds) ?_ hl
      have e : ([175] ++ ofB (numTail ns ds) : List Int) = 175 :: ofB (numTail ns ds) := rfl
      rw [e, runesBytes_cons, runesBytes_ascii _ hlt]
      rfl
end Go.Proofs.YtahfllppbfnpfaaGreatDoor

/- lex.tokens at a number's text: what its iterator tells. -/
namespace Go.Proofs.YtahfllppbfnpfaaGreatDoor
set_option linter.unusedVariables false
set_option linter.unusedSimpArgs false
open Go.RowKit Go.Shelf

attribute [local go_sem] Oper.semAt_some

/-- A token: its kind, text and place, and where its array's items lie. -/
structure Tok where
  kd : Int
  tx : ByteArray
  pl : Int
  ia : Option Addr
  il : Nat
  ic : Nat
def Tok.cells (x : Tok) : List Value := [.int .u8 x.kd, .string x.tx, .int .i64 x.pl, .slice none 0 0, .slice x.ia x.il x.ic]
def Tok.encs (x : Tok) : Array Value := #[.agg #[.int .u8 x.kd, .string x.tx, .int .i64 x.pl, .slice none 0 0, .slice x.ia x.il x.ic], .int .i64 0]
/-- What a round keeps: what lay below n₀, the block Bn, and items that are numbers. -/
structure KeepT (n₀ Bn : Nat) (W W' : World) : Prop where
  below : Below n₀ W W'
  box : W'.heap[Bn]? = W.heap[Bn]?
  num : ∀ base k b ns ds, NumAt base W k b ns ds → NumAt base W' k b ns ds
theorem KeepT.trans {n₀ Bn : Nat} {A B C : World} (h : KeepT n₀ Bn A B) (k : KeepT n₀ Bn B C) : KeepT n₀ Bn A C := ⟨h.below.trans k.below, k.box.trans h.box, fun _ _ _ _ _ hN => k.num _ _ _ _ _ (h.num _ _ _ _ _ hN)⟩
/-- The number's token, and the end. -/
def numTok (T : ByteArray) (k : Nat) : Tok := ⟨1, T, 0, some ⟨k, 0, none⟩, 1, 1⟩
def endTok (n : Nat) : Tok := ⟨0, ⟨#[]⟩, n, none, 0, 0⟩

theorem passTo_end (cs : List Int) : passTo cs cs.length = cs.length := by
  have h := runEnd_le bl cs cs.length (Nat.le_refl _)
  unfold passTo
  rw [if_neg (by omega)]
  omega
theorem passTo_first {cs : List Int} (h0 : 0 < cs.length) (hb : bl (cs.getD 0 0) = false) (hr : ¬ cs.getD 0 0 = 9053) : passTo cs 0 = 0 := by
  have e : runEnd bl cs 0 = 0 := runEnd_is (Nat.le_refl _) (Nat.zero_le _) (fun k k1 k2 => by omega) (Or.inr hb)
  unfold passTo
  rw [e, if_neg (fun h => hr h.2)]

theorem passed_zero {B : Nat} {w : World} {v : Value} {cs : List Int} (h : RdR B w v cs) : Calls Tryz.prog 30 #[v, .int .i64 0] w fun e w' => e = .returned (.int .i64 ((passTo cs 0 : Nat) : Int)) ∧ w' = w := passed_any h 0 (Nat.zero_le _)

set_option maxRecDepth 100000 in
set_option maxHeartbeats 6400000 in
theorem tokens_pays {w : World} {cs : List Int} {b off cap Bn n₀ : Nat} {bx : Bool} {xn xd : List Int} (n : Nat) (hn : 2 ≤ n) (hk : cs.length ≤ cap) (hcap : cap ≤ 9223372036854775807) (h0 : 0 < cs.length) (hc : ∀ j, j < cs.length → w.cell? ⟨b, off + j, none⟩ = some (.int .i32 (cs.getD j 0)))
    (hb : b < n₀) (hn₀ : n₀ ≤ Bn) (hBn : BoxA w Bn 43 #[.slice (some ⟨b, off, none⟩) cs.length cap])
    (hfirst : cs.getD 0 0 = 175 ∨ dg (cs.getD 0 0) = true) (hin : ∀ k, 1 ≤ k → k < cs.length → inn (cs.getD k 0) = true) (hT : runesBytes cs = ratText bx xn xd) (hr : RightP bx xn xd) (hbl : bl (cs.getD 0 0) = false) (hrm : ¬ cs.getD 0 0 = 9053) :
    Pays Fence.wide n Tryz.prog 29 #[.pointer (some ⟨Bn, 0, none⟩)] Tok.encs (KeepT n₀ Bn) (fun pre _ _ => pre.length < 2) (fun xs W => ∃ k, xs = [numTok (runesBytes cs) k, endTok cs.length] ∧ NumAt n₀ W k bx xn xd) w := by
  intro l J W hW hJ hY hJ0
  have HP : Hid ((cs.getD 0 0 = 175 ∨ dg (cs.getD 0 0) = true) ∧ (∀ k, 1 ≤ k → k < cs.length → inn (cs.getD k 0) = true) ∧ runesBytes cs = ratText bx xn xd ∧ RightP bx xn xd ∧ passTo cs 0 = 0) := ⟨hfirst, hin, hT, hr, passTo_first h0 hbl hrm⟩
  clear hfirst hin hT hr hbl hrm
  have hBw := hBn.lt
  have HC : Hid (∀ {W' : World}, Below n₀ W W' → ∀ j, j < cs.length → W'.cell? ⟨b, off + j, none⟩ = some (.int .i32 (cs.getD j 0))) := fun {W'} hb' j hj => ((hb'.cell (p := ⟨b, off + j, none⟩) hb).trans (hW.cell (p := ⟨b, off + j, none⟩) (show b < w.heap.size by omega))).trans (hc j hj)
  have HR : Hid (∀ {W' : World}, Below n₀ W W' → RdR n₀ W' (.slice (some ⟨b, off, none⟩) cs.length cap) cs) := fun {W'} hb' => ⟨_, cap, rfl, hk, hcap, Or.inr ⟨b, off, rfl, hb, HC.out hb'⟩⟩
  have hBW := hBn.below hW hBw
  have hsW := hW.size
  clear hc
  have c0 := hBW.cell 0 rfl
  refine callsIn_of_wp Tryz.func29 rfl trivial ?_ rfl
  simp only [Tryz.ntmps29, List.size_toArray, List.length_cons, List.length_nil, Nat.reduceAdd, Nat.reduceSub, Array.replicate_succ, Array.replicate_zero, List.push_toArray, List.append_toArray, List.nil_append, List.cons_append]
  gi_wp2_with fail
  refine ⟨trivial, fun _ => by omega, ?_⟩
  refine (callsIn_wide.2 (passed_zero (HR.out (Below.refl _ _)))).mono ?_
  rintro e w' ⟨rfl, rfl⟩
  rw [HP.out.2.2.2.2]
  clear c0
  gi_wp2
  gi_loopw [3] (fun at' wr => (at' = .int .i64 0 ∧ J [] wr ∧ KeepT n₀ Bn w' wr ∧ w'.heap.size ≤ wr.heap.size) ∨ (∃ k, at' = .int .i64 cs.length ∧ J [numTok (runesBytes cs) k] wr ∧ KeepT n₀ Bn w' wr ∧ NumAt n₀ wr k bx xn xd ∧ w'.heap.size ≤ wr.heap.size)) (fun at' _ => cs.length - (intOf at').toNat)
  case atStart => exact Or.inl ⟨rfl, hJ0, ⟨Below.refl _ _, rfl, fun _ _ _ _ _ h => h⟩, Nat.le_refl _⟩
  case round =>
    rcases hrel with ⟨rfl, hJs, hK, hsz⟩ | ⟨k, rfl, hJs, hK, hN, hsz⟩
    · have hBr : BoxA wr Bn 43 #[.slice (some ⟨b, off, none⟩) cs.length cap] := by unfold BoxA; rw [hK.box]; exact hBW
      have c0 := hBr.cell 0 rfl
      gi_wp2_with fail
      refine ⟨trivial, fun _ => by omega, ?_⟩
      refine (callsIn_wide.2 (next_num hk hcap h0 (HC.out hK.below) (by omega) HP.out.1 HP.out.2.1 HP.out.2.2.1 HP.out.2.2.2.1)).mono ?_
      rintro e w1 ⟨k, rfl, hN, k1⟩
      have k2 := below_alloc w1 (.cells #[.int .u8 1, .string (runesBytes cs), .int .i64 0, .slice none 0 0, .slice (some ⟨k, 0, none⟩) 1 1] 40)
      have s1 := k1.size
      have t2 : Below wr.heap.size wr _ := k1.trans (k2.mono s1)
      have Tk := boxA_new w1 #[.int .u8 1, .string (runesBytes cs), .int .i64 0, .slice none 0 0, .slice (some ⟨k, 0, none⟩) 1 1] 40
      have hJ2 := hJ [] wr _ none hJs (grown_below t2) (fun r e => by cases e)
      have hN2 := hN.below k2 (Nat.le_refl _)
      obtain ⟨fn, tmps, assign, body, hy, hRd⟩ := hY [] (numTok (runesBytes cs) k) _ hJ2 (by simp)
      dsimp only [Tok.encs, numTok] at hy
      have m0 := Tk.cell 0 rfl
      have m1 := Tk.cell 1 rfl
      have m2 := Tk.cell 2 rfl
      have m3 := Tk.cell 3 rfl
      have m4 := Tk.cell 4 rfl
      gi_wp2
      refine ⟨fun _ => by omega, hRd.mono ?_⟩
      rintro e W3 ⟨rfl, hJ3, hk3⟩
      have hKr : KeepT n₀ Bn wr (w1.alloc (.cells #[.int .u8 1, .string (runesBytes cs), .int .i64 0, .slice none 0 0, .slice (some ⟨k, 0, none⟩) 1 1] 40)) := ⟨t2.mono (by omega), t2.block Bn (by omega), fun _ _ _ _ _ h => h.below t2 (Nat.le_refl _)⟩
      have hK3 := (hK.trans hKr).trans hk3
      have hN3 : NumAt n₀ W3 k bx xn xd := hk3.num _ _ _ _ _ (hN2.mono (by omega))
      have hB3 : BoxA W3 Bn 43 #[.slice (some ⟨b, off, none⟩) cs.length cap] := by unfold BoxA; rw [hK3.box]; exact hBW
      have c3 := hB3.cell 0 rfl
      have sz3 : w'.heap.size ≤ W3.heap.size := by
        have h5 := hk3.below.size
        have h6 := t2.size
        omega
      gi_wp2_with fail
      refine ⟨trivial, fun _ => by omega, ?_⟩
      refine (callsIn_wide.2 (passed_any (HR.out hK3.below) cs.length (Nat.le_refl _))).mono ?_
      rintro e w4 ⟨rfl, rfl⟩
      rw [passTo_end]
      gi_wp2
      go_roundw
      case rel => exact Or.inr ⟨k, rfl, hJ3, hK3, hN3, sz3⟩
      case measure => simp [intOf]; omega
    · have hBr : BoxA wr Bn 43 #[.slice (some ⟨b, off, none⟩) cs.length cap] := by unfold BoxA; rw [hK.box]; exact hBW
      have c0 := hBr.cell 0 rfl
      obtain ⟨fn, tmps, assign, body, hy, hRd⟩ := hY [numTok (runesBytes cs) k] (endTok cs.length) _ hJs (by simp)
      dsimp only [Tok.encs, endTok] at hy
      gi_wp2
      refine ⟨fun _ => by omega, hRd.mono ?_⟩
      rintro e W3 ⟨rfl, hJ3, hk3⟩
      gi_wp2
      go_end0
      exact ⟨⟨_, rfl⟩, _, ⟨k, rfl, hk3.num _ _ _ _ _ hN⟩, hJ3⟩
end Go.Proofs.YtahfllppbfnpfaaGreatDoor

/- lex.All at a number's text. -/
namespace Go.Proofs.YtahfllppbfnpfaaGreatDoor
set_option linter.unusedVariables false
set_option linter.unusedSimpArgs false
open Go.RowKit Go.Shelf

attribute [local go_sem] Oper.semAt_some

theorem info_tok : (Tryz.prog.info? 40).map (fun i => (i.zero, i.size, i.bytes)) = some (some (.agg #[.int .u8 0, .string ⟨#[]⟩, .int .i64 0, .slice none 0 0, .slice none 0 0]), 5, 80) := by kernel_rfl
theorem tokens_any (a : Option Addr) (n c : Nat) (w : World) : Calls Tryz.prog 13 #[.slice a n c] w fun e w' => e = .returned (.func (.func 29) #[] #[.pointer (some ⟨w.heap.size, 0, none⟩)]) ∧ w' = w.alloc (.cells #[.slice a n c] 43) := by
  go_enter Tryz.func13, Tryz.ntmps13
  go_wp2
  go_ret
  exact ⟨rfl, rfl⟩

/-- The type of what lies in a block. -/
def tyOf : Obj → Option TypeId | .cells _ t _ => some t | _ => none
theorem tyOf_none {o : Obj} (h : o.isCells = false) : tyOf o = none := by
  cases o <;> first | rfl | (simp [Obj.isCells] at h)
/-- A step that turns one block, neither an item nor limbs, leaves a number's item. -/
theorem NumAt.kept {base k : Nat} {W W' : World} {b : Bool} {ns ds : List Int} {row : Option Nat} (h : NumAt base W k b ns ds) (hg : W.grownBy W' row) (hr : ∀ r, row = some r → ∃ o, W.heap[r]? = some o ∧ tyOf o ≠ some 55 ∧ tyOf o ≠ some 71) : NumAt base W' k b ns ds := by
  obtain ⟨h0, x1, y1, x2, y2, hB, o1, o2⟩ := h
  have ob : ∀ {v : Value} {xs : List Int}, Own base W v xs → Own base W' v xs := fun {v xs} ho => by
    refine ho.grown hg ?_
    by_cases hv : v.ownBlock = none
    · exact Or.inl hv
    · refine Or.inr (fun e => ?_)
      obtain ⟨_, _, h | ⟨g, cap, cur, rfl, _, hh, _⟩⟩ := ho
      · rw [h.1] at hv; exact hv rfl
      · obtain ⟨o, ho', _, h2⟩ := hr g e.symm
        rw [hh] at ho'
        cases ho'
        exact h2 rfl
  refine ⟨h0, x1, y1, x2, y2, ?_, ob o1, ob o2⟩
  have hlt := hB.lt
  unfold BoxA at hB ⊢
  rw [hg.block k hlt (fun e => ?_)]
  · exact hB
  · obtain ⟨o, ho', h1, _⟩ := hr k e.symm
    rw [hB] at ho'
    cases ho'
    exact h1 rfl
theorem keepT_put {n₀ Bn B0 : Nat} (h1 : n₀ ≤ B0) (h2 : Bn < B0) (W : World) (l : Nat) (o o' : Obj) (hl : B0 ≤ l) (ho : W.heap[l]? = some o) (hc : o.isCells = false) : KeepT n₀ Bn W (W.putObj l o') :=
  ⟨(Below.refl _ W).grown (grownBy_putObj' W l o') (by have := (Array.getElem?_eq_some_iff.1 ho).1; omega) (fun k e => by cases e; omega), World.putObj_heap_other (by omega),
    fun _ _ _ _ _ h => h.kept (grownBy_putObj' W l o') (fun r e => by cases e; exact ⟨o, ho, by rw [tyOf_none hc]; simp, by rw [tyOf_none hc]; simp⟩)⟩
theorem BoxA.grown {W W' : World} {B ty : Nat} {xs : Array Value} {row : Option Nat} (h : BoxA W B ty xs) (hg : W.grownBy W' row) (hr : row ≠ some B) : BoxA W' B ty xs := by
  have hlt := h.lt
  unfold BoxA at h ⊢
  rw [hg.block B hlt (fun e => hr e.symm)]; exact h

theorem BoxA.put1 {W : World} {B ty : Nat} {u : Value} (h : BoxA W B ty #[u]) (v : Value) : BoxA (W.setCell ⟨B, 0, none⟩ v) B ty #[v] := by
  unfold BoxA at h ⊢
  simp [World.setCell, Array.getElem?_modify, h]
theorem row_ty {W : World} {base e size n : Nat} {v : Value} {xs : List Value} (h : W.ownsRow base e size v n xs) : ∀ j, v.ownBlock = some j → ∃ o, W.heap[j]? = some o ∧ tyOf o = some e ∧ o.isCells = true := by
  intro j hj
  obtain ⟨_, h | ⟨g, cap, cur, rfl, _, hh, _⟩⟩ := h
  · rw [h.1] at hj; cases hj
  · cases hj
    exact ⟨_, hh, rfl, rfl⟩
theorem row_form {W : World} {base e size n : Nat} {v : Value} {xs : List Value} (h : W.ownsRow base e size v (n + 1) xs) : ∃ g cap, v = .slice (some ⟨g, 0, none⟩) (n + 1) cap := by
  obtain ⟨_, h | ⟨g, cap, cur, rfl, _⟩⟩ := h
  · omega
  · exact ⟨g, cap, rfl⟩

set_option maxRecDepth 100000 in
set_option maxHeartbeats 6400000 in
theorem all_num {w : World} {bx : Bool} {xn xd : List Int} (hr : RightP bx xn xd) :
    Calls Tryz.prog 5 #[.string (ratText bx xn xd)] w fun e w' => ∃ v k base n, e = .returned (.tuple #[v, .int .i64 0, .int .i64 0]) ∧ w'.ownsRow base 40 5 v 2 ((numTok (ratText bx xn xd) k).cells ++ (endTok n).cells) ∧ NumAt w.heap.size w' k bx xn xd ∧ Below w.heap.size w w' := by
  have HR : Hid (RightP bx xn xd) := hr
  have hsz := ratText_size hr
  obtain ⟨cs, hcs, hno, h0, hf, hin, hT, hbl, hrm⟩ := ratText_runes bx xn xd
  have HCS : Hid (cs = decs (ratText bx xn xd) (ratText bx xn xd).size 0 ∧ (∀ c ∈ cs, ¬ c = 65533) ∧ (cs.getD 0 0 = 175 ∨ dg (cs.getD 0 0) = true) ∧ (∀ k, 1 ≤ k → k < cs.length → inn (cs.getD k 0) = true) ∧ runesBytes cs = ratText bx xn xd ∧ bl (cs.getD 0 0) = false ∧ ¬ cs.getD 0 0 = 9053) := ⟨hcs, hno, hf, hin, hT, hbl, hrm⟩
  clear hr hcs hno hf hin hT hbl hrm
  obtain ⟨T, hTT⟩ : ∃ T, ratText bx xn xd = T := ⟨_, rfl⟩
  rw [hTT] at hsz ⊢
  have HTT : Hid (ratText bx xn xd = T) := hTT
  clear hTT
  have g1 := below_alloc w (.cells #[.slice none 0 0] 26)
  have g2 := below_alloc (w.alloc (.cells #[.slice none 0 0] 26)) (.cells #[.int .i64 0] 27)
  have g3 := below_alloc ((w.alloc (.cells #[.slice none 0 0] 26)).alloc (.cells #[.int .i64 0] 27)) (.cells #[.int .i64 0] 3)
  have R2 := ((boxA_new w #[.slice none 0 0] 26).below g2 (by simp)).below g3 (by simp; omega)
  have R3 := (boxA_new (w.alloc (.cells #[.slice none 0 0] 26)) #[.int .i64 0] 27).below g3 (by simp)
  have R4 := boxA_new ((w.alloc (.cells #[.slice none 0 0] 26)).alloc (.cells #[.int .i64 0] 27)) #[.int .i64 0] 3
  rw [World.size_alloc] at R3
  rw [World.size_alloc, World.size_alloc] at R4
  have g : Below w.heap.size w _ := g1.trans ((g2.mono g1.size).trans (g3.mono (by simp; omega)))
  have sR : (((w.alloc (.cells #[.slice none 0 0] 26)).alloc (.cells #[.int .i64 0] 27)).alloc (.cells #[.int .i64 0] 3)).heap.size = w.heap.size + 1 + 1 + 1 := by simp
  clear g1 g2 g3
  refine (callsIn_wide (n := 6)).1 ?_
  refine callsIn_of_wp_marks Tryz.func5 rfl trivial ?_ rfl
  simp only [Tryz.ntmps5, List.size_toArray, List.length_cons, List.length_nil, Nat.reduceAdd, Nat.reduceSub, Array.replicate_succ, Array.replicate_zero, List.push_toArray, List.append_toArray, List.nil_append, List.cons_append]
  gi_wp2_with fail
  refine ⟨trivial, ?_⟩
  refine (callsIn_wide.2 (runes_any T _ (by omega) (by rw [← HTT.out, ← HCS.out.1]; exact HCS.out.2.1))).mono ?_
  rintro e w1 ⟨cs', a, c, rfl, hO, HD, k1⟩
  obtain rfl : cs' = cs := by rw [HD.out, ← HTT.out]; exact HCS.out.1.symm
  gi_wp2_with fail
  refine ⟨trivial, ?_⟩
  refine (callsIn_wide.2 (tokens_any _ _ _ _)).mono ?_
  rintro e w2 ⟨rfl, rfl⟩
  have hd13 : decide ((1024 : Int) < ((T.size : Nat) : Int)) = false := by simp; omega
  gi_wp2_with fail
  obtain ⟨g0, cap0, hv0, hg0, hk0, hcap0, hc0⟩ := hO.rd h0
  cases hv0
  have s1 := k1.size
  have kA := below_alloc w1 (.cells #[.slice none 0 0] 26)
  have kB := below_alloc (w1.alloc (.cells #[.slice none 0 0] 26)) (.cells #[.slice (some ⟨g0, 0, none⟩) cs'.length c] 43)
  have kAB : Below w1.heap.size w1 _ := kA.trans (kB.mono kA.size)
  have BO := (boxA_new w1 #[.slice none 0 0] 26).below kB (by simp)
  have BN := boxA_new (w1.alloc (.cells #[.slice none 0 0] 26)) #[.slice (some ⟨g0, 0, none⟩) cs'.length c] 43
  rw [World.size_alloc] at BN
  have sW : ((w1.alloc (.cells #[.slice none 0 0] 26)).alloc (.cells #[.slice (some ⟨g0, 0, none⟩) cs'.length c] 43)).heap.size = w1.heap.size + 1 + 1 := by simp
  have HC1 : Hid (∀ j, j < cs'.length → ((w1.alloc (.cells #[.slice none 0 0] 26)).alloc (.cells #[.slice (some ⟨g0, 0, none⟩) cs'.length c] 43)).cell? ⟨g0, 0 + j, none⟩ = some (.int .i32 (cs'.getD j 0))) := fun j hj => (kAB.cell (p := ⟨g0, 0 + j, none⟩) hg0).trans (hc0 j hj)
  clear hc0
  obtain ⟨W0, hW0⟩ : ∃ W0, (w1.alloc (.cells #[.slice none 0 0] 26)).alloc (.cells #[.slice (some ⟨g0, 0, none⟩) cs'.length c] 43) = W0 := ⟨_, rfl⟩
  rw [hW0] at kAB BO BN sW ⊢
  have HC0 : Hid (∀ j, j < cs'.length → W0.cell? ⟨g0, 0 + j, none⟩ = some (.int .i32 (cs'.getD j 0))) := by unfold Hid; rw [← hW0]; exact HC1.out
  clear hW0 HC1 kA kB
  obtain ⟨i0, hi, hz0, hz1, hz2⟩ := info_parts info_tok
  refine wpIn_range_pays rfl (by omega) (gf := 29) (lb := #[.pointer (some ⟨w1.heap.size + 1, 0, none⟩)]) rfl trivial (enters_of Tryz.func29 (by kernel_rfl) rfl)
    (tokens_pays (n₀ := w1.heap.size) (Bn := w1.heap.size + 1) (bx := bx) (xn := xn) (xd := xd) 5 (by omega) hk0 hcap0 h0 HC0.out hg0 (by omega) BN HCS.out.2.2.1 HCS.out.2.2.2.1 HCS.out.2.2.2.2.1 HR.out HCS.out.2.2.2.2.2.1 HCS.out.2.2.2.2.2.2)
    (fun h h' => h.trans h') (fun W l o o' hl ho hc _ => keepT_put (B0 := W0.heap.size) (by omega) (by omega) W l o o' hl ho hc) (Below.refl _ _) (fun _ => rfl)
    (fun pre W => ∃ v, BoxA W w1.heap.size 26 #[v] ∧ W.ownsRow W0.heap.size 40 5 v pre.length (pre.flatMap Tok.cells) ∧ Below w1.heap.size W0 W)
    ?hI ⟨_, BO, World.ownsRow_nil _ _ _ _, Below.refl _ _⟩ ?hS
    (fun pre x a' W => pre.length < 2 ∧ ∃ Bx, W0.heap.size ≤ Bx ∧ BoxA W Bx 40 #[.int .u8 x.kd, .string x.tx, .int .i64 x.pl, .slice none 0 0, .slice x.ia x.il x.ic] ∧ a' = { tmps := #[.string T, undef, .pointer (some ⟨w.heap.size, 0, none⟩), .pointer (some ⟨w.heap.size + 1, 0, none⟩), .pointer (some ⟨w.heap.size + 1 + 1, 0, none⟩), .slice (some ⟨g0, 0, none⟩) cs'.length c, .int .i64 0, .int .i64 0, .pointer (some ⟨w1.heap.size, 0, none⟩), .pointer (some ⟨Bx, 0, none⟩), .int .i64 0, .string T, .int .i64 (T.size : Int), .bool false, .tuple #[.slice (some ⟨g0, 0, none⟩) cs'.length c, .int .i64 0, .int .i64 0], .string T, .tuple #[.slice (some ⟨g0, 0, none⟩) cs'.length c, .int .i64 0, .int .i64 0], .slice (some ⟨g0, 0, none⟩) cs'.length c, .int .i64 0, .int .i64 0, .int .i64 0, .bool false, undef, undef, .slice (some ⟨g0, 0, none⟩) cs'.length c, .func (.func 29) #[] #[.pointer (some ⟨w1.heap.size + 1, 0, none⟩)], .agg #[.int .u8 x.kd, .string x.tx, .int .i64 x.pl, .slice none 0 0, .slice x.ia x.il x.ic], .int .i64 0, undef, undef, undef, undef, undef, undef, undef, undef, undef, undef], defers := [] })
    ?hAx ?assign ?body ?done
  case hI =>
    intro s A B row hs hg hrow
    obtain ⟨v, b1, b2, b3⟩ := hs
    have hne : row ≠ some w1.heap.size := fun e => by have := (hrow _ e).1; omega
    refine ⟨v, b1.grown hg hne, b2.kept hg ?_, b3.grown hg (by have := b3.size; omega) (fun k e => by have := (hrow k e).1; omega)⟩
    by_cases hv : v.ownBlock = none
    · exact Or.inl hv
    · refine Or.inr (fun e => ?_)
      obtain ⟨_, h | ⟨g, cap, cur, rfl, _, hh, _⟩⟩ := b2
      · rw [h.1] at hv; exact hv rfl
      · obtain ⟨_, o, ho, hc⟩ := hrow g e.symm
        rw [hh] at ho
        cases ho
        cases hc
  case hS =>
    rintro s A B row ⟨k, h1, h2⟩ hg hrow
    exact ⟨k, h1, h2.kept hg (fun r e => by obtain ⟨_, o, ho, hc⟩ := hrow r e; exact ⟨o, ho, by rw [tyOf_none hc]; simp, by rw [tyOf_none hc]; simp⟩)⟩
  case hAx =>
    rintro pre x a' _ A B row ⟨h1, Bx, h2, h3, h4⟩ hg hrow
    refine ⟨h1, Bx, h2, h3.grown hg (fun e => ?_), h4⟩
    obtain ⟨_, o, ho, hc⟩ := hrow _ e
    unfold BoxA at h3
    rw [h3] at ho
    cases ho
    cases hc
  case assign =>
    rintro l pre x W K ⟨v, b1, b2, b3⟩ hG hK
    dsimp only [Tok.encs]
    have s3 := b3.size
    have kx := below_alloc W (.cells #[.int .u8 x.kd, .string x.tx, .int .i64 x.pl, .slice none 0 0, .slice x.ia x.il x.ic] 40)
    gi_wp2
    exact hK _ _ ((KeepsOthers.alloc _ _).from _) ⟨kx.mono (by omega), kx.block _ (by omega), fun _ _ _ _ _ h => h.below kx (Nat.le_refl _)⟩ ⟨v, b1.below kx b1.lt, b2.alloc _, b3.trans (kx.mono (by omega))⟩ ⟨hG, W.heap.size, s3, boxA_new W _ _, rfl⟩
  case body =>
    rintro l pre x a' W ⟨v, b1, b2, b3⟩ ⟨hG, Bx, hBx, bX, rfl⟩
    have s3 := b3.size
    have cO := b1.cell 0 rfl
    have fO := b1.frozen 0
    have m0 := bX.cell 0 rfl
    have m1 := bX.cell 1 rfl
    have m2 := bX.cell 2 rfl
    have m3 := bX.cell 3 rfl
    have m4 := bX.cell 4 rfl
    have kx := below_alloc W (.cells #[.int .u8 x.kd, .string x.tx, .int .i64 x.pl, .slice none 0 0, .slice x.ia x.il x.ic] 40)
    have NX := boxA_new W #[.int .u8 x.kd, .string x.tx, .int .i64 x.pl, .slice none 0 0, .slice x.ia x.il x.ic] 40
    gi_wp2_with (gi_at_builtin; refine wpListIn_append_own _ rfl _ _ 26 rfl W0.heap.size 40 i0 (.agg #[.int .u8 0, .string ⟨#[]⟩, .int .i64 0, .slice none 0 0, .slice none 0 0]) 5 80 Tryz.underlying26 hi hz0 hz1 hz2 rfl (by decide) _ _ _ rfl (b2.alloc _) ⟨W.heap.size, 0, none⟩ 1 1 x.cells rfl rfl ?c1 ?c2 ?c3 ?c4 ?c5 ?_)
    case c1 =>
      intro j u hj
      match j, hj with
      | 0, hj => simp [Tok.cells] at hj; subst hj; exact NX.cell 0 rfl
      | 1, hj => simp [Tok.cells] at hj; subst hj; exact NX.cell 1 rfl
      | 2, hj => simp [Tok.cells] at hj; subst hj; exact NX.cell 2 rfl
      | 3, hj => simp [Tok.cells] at hj; subst hj; exact NX.cell 3 rfl
      | 4, hj => simp [Tok.cells] at hj; subst hj; exact NX.cell 4 rfl
      | j + 5, hj => simp [Tok.cells] at hj
    case c2 =>
      intro u hu
      simp [Tok.cells] at hu
      rcases hu with rfl | rfl | rfl | rfl | rfl <;> rfl
    case c3 => unfold maxLen; omega
    case c4 => omega
    case c5 => have := kx.size; omega
    intro v' wa hown' hgrow _
    obtain ⟨g', cap', rfl⟩ := row_form hown'
    have hrow : ∀ j, v.ownBlock = some j → w1.heap.size + 1 + 1 ≤ j := fun j hj => by have := (b2.lt j hj).1; omega
    have hne : v.ownBlock ≠ some w1.heap.size := fun e => by have := hrow _ e; omega
    have hneN : v.ownBlock ≠ some (w1.heap.size + 1) := fun e => by have := hrow _ e; omega
    have bO2 := (b1.below kx b1.lt).grown hgrow hne
    have cO2 := bO2.cell 0 rfl
    have fO2 := bO2.frozen 0
    have sa := hgrow.size
    have sx := kx.size
    have hty := row_ty (b2.alloc (.cells #[.int .u8 x.kd, .string x.tx, .int .i64 x.pl, .slice none 0 0, .slice x.ia x.il x.ic] 40))
    have kB1 : Below w1.heap.size W wa := (kx.mono (by omega)).grown hgrow (by omega) (fun k e => by have := hrow k e; omega)
    have kF1 : KeepsOthers W wa := (KeepsOthers.alloc W _).trans (KeepsOthers.of_grownBy hgrow (fun j o e ho => by obtain ⟨o', ho', _, hc⟩ := hty j e; rw [ho] at ho'; cases ho'; exact hc))
    have kN1 : ∀ base k b ns ds, NumAt base W k b ns ds → NumAt base wa k b ns ds := fun base k b ns ds h => (h.below kx (Nat.le_refl _)).kept hgrow (fun r e => by obtain ⟨o', ho', ht, _⟩ := hty r e; exact ⟨o', ho', by rw [ht]; decide, by rw [ht]; decide⟩)
    have kBox : wa.heap[w1.heap.size + 1]? = W.heap[w1.heap.size + 1]? := (hgrow.block _ (by omega) (fun e => hneN e.symm)).trans (kx.block _ (by omega))
    gi_wp2
    refine ⟨(kF1.trans (KeepsOthers.setCell _ _ _)).from _, ⟨kB1.setCell (p := ⟨w1.heap.size, 0, none⟩) (Nat.le_refl _) _, ?_, ?_⟩, _, bO2.put1 _, ?_, ?_⟩
    · exact (Below.heap_setCell _ _ _ _ (by simp)).trans kBox
    · exact fun base k b ns ds h => (kN1 base k b ns ds h).kept (grownBy_setCell' _ _ _) (fun r e => by cases e; exact ⟨_, bO2, by simp [tyOf], by simp [tyOf]⟩)
    · exact ownsRow_setCell_other hown' (a := ⟨w1.heap.size, 0, none⟩) (fun e => by have := (hown'.lt _ e).1; simp at this; omega) _
    · exact (b3.trans kB1).setCell (p := ⟨w1.heap.size, 0, none⟩) (Nat.le_refl _) _
  case done =>
    rintro D xs W hD ⟨k, rfl, hN⟩ ⟨v, b1, b2, b3⟩ hK
    have s3 := b3.size
    have kW : Below w1.heap.size w1 W := kAB.trans b3
    have R2' := (R2.below k1 (by omega)).below kW (by omega)
    have R3' := (R3.below k1 (by omega)).below kW (by omega)
    have R4' := (R4.below k1 (by omega)).below kW (by omega)
    have cO := b1.cell 0 rfl
    have p2 := R2'.cell 0 rfl
    have p3 := R3'.cell 0 rfl
    have p4 := R4'.cell 0 rfl
    have f2 := R2'.frozen 0
    have f3 := R3'.frozen 0
    have f4 := R4'.frozen 0
    obtain ⟨gr, capr, rfl⟩ := row_form (n := 1) b2
    gi_wp2
    have hK2 := ((KeepsOthers.setCell W ⟨w.heap.size, 0, none⟩ (.slice (some ⟨gr, 0, none⟩) 2 capr)).trans ((KeepsOthers.setCell _ ⟨w.heap.size + 1, 0, none⟩ (.int .i64 0)).trans (KeepsOthers.setCell _ ⟨w.heap.size + 1 + 1, 0, none⟩ (.int .i64 0)))).same D _ hK rfl
    refine ⟨by simp, .inl ⟨_, _, rfl, run_takeDeferred hK2, ?_⟩⟩
    have hgp := grownBy_putObj' (((W.setCell ⟨w.heap.size, 0, none⟩ (.slice (some ⟨gr, 0, none⟩) 2 capr)).setCell ⟨w.heap.size + 1, 0, none⟩ (.int .i64 0)).setCell ⟨w.heap.size + 1 + 1, 0, none⟩ (.int .i64 0)) D (.deferred none)
    have q2 := (((R2'.put1 (.slice (some ⟨gr, 0, none⟩) 2 capr)).other (p := ⟨w.heap.size + 1, 0, none⟩) (show w.heap.size + 1 ≠ w.heap.size by omega) (.int .i64 0)).other (p := ⟨w.heap.size + 1 + 1, 0, none⟩) (show w.heap.size + 1 + 1 ≠ w.heap.size by omega) (.int .i64 0)).grown hgp (fun e => by cases e; omega)
    have q3 := (((R3'.other (p := ⟨w.heap.size, 0, none⟩) (show w.heap.size ≠ w.heap.size + 1 by omega) (.slice (some ⟨gr, 0, none⟩) 2 capr)).put1 (.int .i64 0)).other (p := ⟨w.heap.size + 1 + 1, 0, none⟩) (show w.heap.size + 1 + 1 ≠ w.heap.size + 1 by omega) (.int .i64 0)).grown hgp (fun e => by cases e; omega)
    have q4 := (((R4'.other (p := ⟨w.heap.size, 0, none⟩) (show w.heap.size ≠ w.heap.size + 1 + 1 by omega) (.slice (some ⟨gr, 0, none⟩) 2 capr)).other (p := ⟨w.heap.size + 1, 0, none⟩) (show w.heap.size + 1 ≠ w.heap.size + 1 + 1 by omega) (.int .i64 0)).put1 (.int .i64 0)).grown hgp (fun e => by cases e; omega)
    have x2 := q2.cell 0 rfl
    have x3 := q3.cell 0 rfl
    have x4 := q4.cell 0 rfl
    have hgr : W0.heap.size ≤ gr := by have := (b2.lt gr rfl).1; omega
    have hrow3 := ((ownsRow_setCell_other b2 (a := ⟨w.heap.size, 0, none⟩) (fun e => by have h : gr = w.heap.size := Option.some.inj e; omega) (.slice (some ⟨gr, 0, none⟩) 2 capr)) |> fun h => ownsRow_setCell_other h (a := ⟨w.heap.size + 1, 0, none⟩) (fun e => by have h : gr = w.heap.size + 1 := Option.some.inj e; omega) (.int .i64 0)) |> fun h => ownsRow_setCell_other h (a := ⟨w.heap.size + 1 + 1, 0, none⟩) (fun e => by have h : gr = w.heap.size + 1 + 1 := Option.some.inj e; omega) (.int .i64 0)
    have hneD : (Value.slice (some ⟨gr, 0, none⟩) 2 capr).ownBlock ≠ some D := fun e => by
      cases e
      obtain ⟨o, ho, _, hc⟩ := row_ty b2 gr rfl
      rw [hK] at ho
      cases ho
      cases hc
    refine ⟨.tuple #[.slice (some ⟨gr, 0, none⟩) 2 capr, .int .i64 0, .int .i64 0], by simp [results, Tryz.results5, go_sem, x2, x3, x4], _, k, W0.heap.size, cs'.length, rfl, ?_, ?_, ?_⟩
    · have hcell : List.flatMap Tok.cells [numTok (runesBytes cs') k, endTok cs'.length] = (numTok T k).cells ++ (endTok cs'.length).cells := by
        rw [HCS.out.2.2.2.2.1, HTT.out]; simp
      rw [← hcell]
      exact hrow3.kept hgp (Or.inr hneD)
    · exact ((((hN.setC (R := w.heap.size) (by omega) 0 _).setC (R := w.heap.size + 1) (by omega) 0 _).setC (R := w.heap.size + 1 + 1) (by omega) 0 _).kept hgp (fun r e => by cases e; exact ⟨_, hK2, by simp [tyOf], by simp [tyOf]⟩)).mono (by omega)
    · exact ((((((g.trans (k1.mono (by omega))).trans (kW.mono (by omega))).setCell (p := ⟨w.heap.size, 0, none⟩) (Nat.le_refl _) _).setCell (p := ⟨w.heap.size + 1, 0, none⟩) (show w.heap.size ≤ w.heap.size + 1 by omega) _).setCell (p := ⟨w.heap.size + 1 + 1, 0, none⟩) (show w.heap.size ≤ w.heap.size + 1 + 1 by omega) _).grown hgp (by have := kW.size; simp [World.setCell]; omega) (fun k e => by cases e; omega))
end Go.Proofs.YtahfllppbfnpfaaGreatDoor

/- lex.All at the empty text. -/
namespace Go.Proofs.YtahfllppbfnpfaaGreatDoor
set_option linter.unusedVariables false
set_option linter.unusedSimpArgs false
open Go.RowKit Go.Shelf

attribute [local go_sem] Oper.semAt_some

theorem OwnR.rdr {base : Nat} {w : World} {v : Value} {cs : List Int} (h : OwnR base w v cs) : RdR w.heap.size w v cs := by
  by_cases h0 : 0 < cs.length
  · obtain ⟨g, cap, rfl, hg, h1, h2, h3⟩ := h.rd h0
    exact ⟨_, cap, rfl, h1, h2, Or.inr ⟨g, 0, rfl, hg, h3⟩⟩
  · obtain ⟨_, h | ⟨g, cap, cur, rfl, _, _, h1, h2, _⟩⟩ := h
    · exact ⟨none, 0, by rw [h.1, h.2], by omega, by omega, Or.inl h.2⟩
    · exact ⟨_, cap, rfl, h1, by unfold maxLen at h2; omega, Or.inl (by omega)⟩
theorem passTo_nil {cs : List Int} (h0 : ¬ 0 < cs.length) : passTo cs 0 = 0 := by
  have h := runEnd_le bl cs 0 (Nat.zero_le _)
  unfold passTo
  rw [if_neg (by omega)]
  omega

set_option maxRecDepth 100000 in
set_option maxHeartbeats 6400000 in
theorem tokens_pays_nil {w : World} {cs : List Int} {a : Option Addr} {c Bn n₀ B : Nat} (n : Nat) (hn : 2 ≤ n) (hR : RdR B w (.slice a cs.length c) cs) (h0 : ¬ 0 < cs.length) (hn₀ : n₀ ≤ Bn) (hBn : BoxA w Bn 43 #[.slice a cs.length c]) :
    Pays Fence.wide n Tryz.prog 29 #[.pointer (some ⟨Bn, 0, none⟩)] Tok.encs (KeepT n₀ Bn) (fun pre _ _ => pre.length < 2) (fun xs _ => xs = [endTok 0]) w := by
  intro l J W hW hJ hY hJ0
  have hBW := hBn.below hW hBn.lt
  have hRW : RdR 0 W (.slice a cs.length c) cs := by
    obtain ⟨a', cap, e, h1, h2, _⟩ := hR
    exact ⟨a', cap, e, h1, h2, Or.inl (by omega)⟩
  have c0 := hBW.cell 0 rfl
  have HP : Hid (passTo cs 0 = 0) := passTo_nil h0
  refine callsIn_of_wp Tryz.func29 rfl trivial ?_ rfl
  simp only [Tryz.ntmps29, List.size_toArray, List.length_cons, List.length_nil, Nat.reduceAdd, Nat.reduceSub, Array.replicate_succ, Array.replicate_zero, List.push_toArray, List.append_toArray, List.nil_append, List.cons_append]
  gi_wp2_with fail
  refine ⟨trivial, fun _ => by omega, ?_⟩
  refine (callsIn_wide.2 (passed_zero hRW)).mono ?_
  rintro e w' ⟨rfl, rfl⟩
  rw [HP.out]
  gi_wp2
  gi_loopw [3] (fun at' wr => at' = .int .i64 0 ∧ wr = w') (fun _ _ => 0)
  case atStart => exact ⟨rfl, rfl⟩
  case round =>
    obtain ⟨rfl, rfl⟩ := hrel
    obtain ⟨fn, tmps, assign, body, hy, hRd⟩ := hY [] (endTok 0) _ hJ0 (by simp)
    dsimp only [Tok.encs, endTok] at hy
    rw [show ((0 : Nat) : Int) = 0 from rfl] at hy
    gi_wp2
    refine ⟨fun _ => by omega, hRd.mono ?_⟩
    rintro e W3 ⟨rfl, hJ3, hk3⟩
    gi_wp2
    go_end0
    exact ⟨⟨_, rfl⟩, _, rfl, hJ3⟩

set_option maxRecDepth 100000 in
set_option maxHeartbeats 6400000 in
theorem all_nil {w : World} {T : ByteArray} (hT0 : T.size ≤ 0) :
    Calls Tryz.prog 5 #[.string T] w fun e w' => ∃ v, e = .returned (.tuple #[v, .int .i64 0, .int .i64 0]) ∧ Below w.heap.size w w' := by
  have hsz : T.size ≤ 700 := by omega
  have hno0 : ∀ c ∈ decs T T.size 0, ¬ c = 65533 := by
    have e : T.size = 0 := by omega
    rw [e]
    intro c hc
    simp [decs] at hc
  have g1 := below_alloc w (.cells #[.slice none 0 0] 26)
  have g2 := below_alloc (w.alloc (.cells #[.slice none 0 0] 26)) (.cells #[.int .i64 0] 27)
  have g3 := below_alloc ((w.alloc (.cells #[.slice none 0 0] 26)).alloc (.cells #[.int .i64 0] 27)) (.cells #[.int .i64 0] 3)
  have R2 := ((boxA_new w #[.slice none 0 0] 26).below g2 (by simp)).below g3 (by simp; omega)
  have R3 := (boxA_new (w.alloc (.cells #[.slice none 0 0] 26)) #[.int .i64 0] 27).below g3 (by simp)
  have R4 := boxA_new ((w.alloc (.cells #[.slice none 0 0] 26)).alloc (.cells #[.int .i64 0] 27)) #[.int .i64 0] 3
  rw [World.size_alloc] at R3
  rw [World.size_alloc, World.size_alloc] at R4
  have g : Below w.heap.size w _ := g1.trans ((g2.mono g1.size).trans (g3.mono (by simp; omega)))
  have sR : (((w.alloc (.cells #[.slice none 0 0] 26)).alloc (.cells #[.int .i64 0] 27)).alloc (.cells #[.int .i64 0] 3)).heap.size = w.heap.size + 1 + 1 + 1 := by simp
  clear g1 g2 g3
  refine (callsIn_wide (n := 6)).1 ?_
  refine callsIn_of_wp_marks Tryz.func5 rfl trivial ?_ rfl
  simp only [Tryz.ntmps5, List.size_toArray, List.length_cons, List.length_nil, Nat.reduceAdd, Nat.reduceSub, Array.replicate_succ, Array.replicate_zero, List.push_toArray, List.append_toArray, List.nil_append, List.cons_append]
  gi_wp2_with fail
  refine ⟨trivial, ?_⟩
  refine (callsIn_wide.2 (runes_any T _ (by omega) hno0)).mono ?_
  rintro e w1 ⟨cs', a, c, rfl, hO, HD, k1⟩
  have h0 : ¬ 0 < cs'.length := by
    have e : T.size = 0 := by omega
    rw [HD.out, e]; simp [decs]
  gi_wp2_with fail
  refine ⟨trivial, ?_⟩
  refine (callsIn_wide.2 (tokens_any _ _ _ _)).mono ?_
  rintro e w2 ⟨rfl, rfl⟩
  have hd13 : decide ((1024 : Int) < ((T.size : Nat) : Int)) = false := by simp; omega
  gi_wp2_with fail
  have s1 := k1.size
  have kA := below_alloc w1 (.cells #[.slice none 0 0] 26)
  have kB := below_alloc (w1.alloc (.cells #[.slice none 0 0] 26)) (.cells #[.slice a cs'.length c] 43)
  have kAB : Below w1.heap.size w1 _ := kA.trans (kB.mono kA.size)
  have BO := (boxA_new w1 #[.slice none 0 0] 26).below kB (by simp)
  have BN := boxA_new (w1.alloc (.cells #[.slice none 0 0] 26)) #[.slice a cs'.length c] 43
  rw [World.size_alloc] at BN
  have sW : ((w1.alloc (.cells #[.slice none 0 0] 26)).alloc (.cells #[.slice a cs'.length c] 43)).heap.size = w1.heap.size + 1 + 1 := by simp
  have hRR := (hO.rdr.below kAB).mono (show w1.heap.size ≤ _ from kAB.size)
  obtain ⟨W0, hW0⟩ : ∃ W0, (w1.alloc (.cells #[.slice none 0 0] 26)).alloc (.cells #[.slice a cs'.length c] 43) = W0 := ⟨_, rfl⟩
  rw [hW0] at kAB BO BN sW hRR ⊢
  clear hW0 kA kB
  obtain ⟨i0, hi, hz0, hz1, hz2⟩ := info_parts info_tok
  refine wpIn_range_pays rfl (by omega) (gf := 29) (lb := #[.pointer (some ⟨w1.heap.size + 1, 0, none⟩)]) rfl trivial (enters_of Tryz.func29 (by kernel_rfl) rfl)
    (tokens_pays_nil (n₀ := w1.heap.size) (Bn := w1.heap.size + 1) 5 (by omega) hRR h0 (by omega) BN)
    (fun h h' => h.trans h') (fun W l o o' hl ho hc _ => keepT_put (B0 := W0.heap.size) (by omega) (by omega) W l o o' hl ho hc) (Below.refl _ _) (fun _ => rfl)
    (fun pre W => ∃ v, BoxA W w1.heap.size 26 #[v] ∧ W.ownsRow W0.heap.size 40 5 v pre.length (pre.flatMap Tok.cells) ∧ Below w1.heap.size W0 W)
    ?hI ⟨_, BO, World.ownsRow_nil _ _ _ _, Below.refl _ _⟩ ?hS
    (fun pre x a' W => pre.length < 2 ∧ ∃ Bx, W0.heap.size ≤ Bx ∧ BoxA W Bx 40 #[.int .u8 x.kd, .string x.tx, .int .i64 x.pl, .slice none 0 0, .slice x.ia x.il x.ic] ∧ a' = { tmps := #[.string T, undef, .pointer (some ⟨w.heap.size, 0, none⟩), .pointer (some ⟨w.heap.size + 1, 0, none⟩), .pointer (some ⟨w.heap.size + 1 + 1, 0, none⟩), .slice a cs'.length c, .int .i64 0, .int .i64 0, .pointer (some ⟨w1.heap.size, 0, none⟩), .pointer (some ⟨Bx, 0, none⟩), .int .i64 0, .string T, .int .i64 (T.size : Int), .bool false, .tuple #[.slice a cs'.length c, .int .i64 0, .int .i64 0], .string T, .tuple #[.slice a cs'.length c, .int .i64 0, .int .i64 0], .slice a cs'.length c, .int .i64 0, .int .i64 0, .int .i64 0, .bool false, undef, undef, .slice a cs'.length c, .func (.func 29) #[] #[.pointer (some ⟨w1.heap.size + 1, 0, none⟩)], .agg #[.int .u8 x.kd, .string x.tx, .int .i64 x.pl, .slice none 0 0, .slice x.ia x.il x.ic], .int .i64 0, undef, undef, undef, undef, undef, undef, undef, undef, undef, undef], defers := [] })
    ?hAx ?assign ?body ?done
  case hI =>
    intro s A B row hs hg hrow
    obtain ⟨v, b1, b2, b3⟩ := hs
    have hne : row ≠ some w1.heap.size := fun e => by have := (hrow _ e).1; omega
    refine ⟨v, b1.grown hg hne, b2.kept hg ?_, b3.grown hg (by have := b3.size; omega) (fun k e => by have := (hrow k e).1; omega)⟩
    by_cases hv : v.ownBlock = none
    · exact Or.inl hv
    · refine Or.inr (fun e => ?_)
      obtain ⟨_, h | ⟨g, cap, cur, rfl, _, hh, _⟩⟩ := b2
      · rw [h.1] at hv; exact hv rfl
      · obtain ⟨_, o, ho, hc⟩ := hrow g e.symm
        rw [hh] at ho
        cases ho
        cases hc
  case hS => exact fun s A B row hs hg hrow => hs
  case hAx =>
    rintro pre x a' _ A B row ⟨h1, Bx, h2, h3, h4⟩ hg hrow
    refine ⟨h1, Bx, h2, h3.grown hg (fun e => ?_), h4⟩
    obtain ⟨_, o, ho, hc⟩ := hrow _ e
    unfold BoxA at h3
    rw [h3] at ho
    cases ho
    cases hc
  case assign =>
    rintro l pre x W K ⟨v, b1, b2, b3⟩ hG hK
    dsimp only [Tok.encs]
    have s3 := b3.size
    have kx := below_alloc W (.cells #[.int .u8 x.kd, .string x.tx, .int .i64 x.pl, .slice none 0 0, .slice x.ia x.il x.ic] 40)
    gi_wp2
    exact hK _ _ ((KeepsOthers.alloc _ _).from _) ⟨kx.mono (by omega), kx.block _ (by omega), fun _ _ _ _ _ h => h.below kx (Nat.le_refl _)⟩ ⟨v, b1.below kx b1.lt, b2.alloc _, b3.trans (kx.mono (by omega))⟩ ⟨hG, W.heap.size, s3, boxA_new W _ _, rfl⟩
  case body =>
    rintro l pre x a' W ⟨v, b1, b2, b3⟩ ⟨hG, Bx, hBx, bX, rfl⟩
    have s3 := b3.size
    have cO := b1.cell 0 rfl
    have fO := b1.frozen 0
    have m0 := bX.cell 0 rfl
    have m1 := bX.cell 1 rfl
    have m2 := bX.cell 2 rfl
    have m3 := bX.cell 3 rfl
    have m4 := bX.cell 4 rfl
    have kx := below_alloc W (.cells #[.int .u8 x.kd, .string x.tx, .int .i64 x.pl, .slice none 0 0, .slice x.ia x.il x.ic] 40)
    have NX := boxA_new W #[.int .u8 x.kd, .string x.tx, .int .i64 x.pl, .slice none 0 0, .slice x.ia x.il x.ic] 40
    gi_wp2_with (gi_at_builtin; refine wpListIn_append_own _ rfl _ _ 26 rfl W0.heap.size 40 i0 (.agg #[.int .u8 0, .string ⟨#[]⟩, .int .i64 0, .slice none 0 0, .slice none 0 0]) 5 80 Tryz.underlying26 hi hz0 hz1 hz2 rfl (by decide) _ _ _ rfl (b2.alloc _) ⟨W.heap.size, 0, none⟩ 1 1 x.cells rfl rfl ?c1 ?c2 ?c3 ?c4 ?c5 ?_)
    case c1 =>
      intro j u hj
      match j, hj with
      | 0, hj => simp [Tok.cells] at hj; subst hj; exact NX.cell 0 rfl
      | 1, hj => simp [Tok.cells] at hj; subst hj; exact NX.cell 1 rfl
      | 2, hj => simp [Tok.cells] at hj; subst hj; exact NX.cell 2 rfl
      | 3, hj => simp [Tok.cells] at hj; subst hj; exact NX.cell 3 rfl
      | 4, hj => simp [Tok.cells] at hj; subst hj; exact NX.cell 4 rfl
      | j + 5, hj => simp [Tok.cells] at hj
    case c2 =>
      intro u hu
      simp [Tok.cells] at hu
      rcases hu with rfl | rfl | rfl | rfl | rfl <;> rfl
    case c3 => unfold maxLen; omega
    case c4 => omega
    case c5 => have := kx.size; omega
    intro v' wa hown' hgrow _
    obtain ⟨g', cap', rfl⟩ := row_form hown'
    have hrow : ∀ j, v.ownBlock = some j → w1.heap.size + 1 + 1 ≤ j := fun j hj => by have := (b2.lt j hj).1; omega
    have hne : v.ownBlock ≠ some w1.heap.size := fun e => by have := hrow _ e; omega
    have hneN : v.ownBlock ≠ some (w1.heap.size + 1) := fun e => by have := hrow _ e; omega
    have bO2 := (b1.below kx b1.lt).grown hgrow hne
    have cO2 := bO2.cell 0 rfl
    have fO2 := bO2.frozen 0
    have sa := hgrow.size
    have sx := kx.size
    have hty := row_ty (b2.alloc (.cells #[.int .u8 x.kd, .string x.tx, .int .i64 x.pl, .slice none 0 0, .slice x.ia x.il x.ic] 40))
    have kB1 : Below w1.heap.size W wa := (kx.mono (by omega)).grown hgrow (by omega) (fun k e => by have := hrow k e; omega)
    have kF1 : KeepsOthers W wa := (KeepsOthers.alloc W _).trans (KeepsOthers.of_grownBy hgrow (fun j o e ho => by obtain ⟨o', ho', _, hc⟩ := hty j e; rw [ho] at ho'; cases ho'; exact hc))
    have kN1 : ∀ base k b ns ds, NumAt base W k b ns ds → NumAt base wa k b ns ds := fun base k b ns ds h => (h.below kx (Nat.le_refl _)).kept hgrow (fun r e => by obtain ⟨o', ho', ht, _⟩ := hty r e; exact ⟨o', ho', by rw [ht]; decide, by rw [ht]; decide⟩)
    have kBox : wa.heap[w1.heap.size + 1]? = W.heap[w1.heap.size + 1]? := (hgrow.block _ (by omega) (fun e => hneN e.symm)).trans (kx.block _ (by omega))
    gi_wp2
    refine ⟨(kF1.trans (KeepsOthers.setCell _ _ _)).from _, ⟨kB1.setCell (p := ⟨w1.heap.size, 0, none⟩) (Nat.le_refl _) _, ?_, ?_⟩, _, bO2.put1 _, ?_, ?_⟩
    · exact (Below.heap_setCell _ _ _ _ (by simp)).trans kBox
    · exact fun base k b ns ds h => (kN1 base k b ns ds h).kept (grownBy_setCell' _ _ _) (fun r e => by cases e; exact ⟨_, bO2, by simp [tyOf], by simp [tyOf]⟩)
    · exact ownsRow_setCell_other hown' (a := ⟨w1.heap.size, 0, none⟩) (fun e => by have := (hown'.lt _ e).1; simp at this; omega) _
    · exact (b3.trans kB1).setCell (p := ⟨w1.heap.size, 0, none⟩) (Nat.le_refl _) _
  case done =>
    rintro D xs W hD rfl ⟨v, b1, b2, b3⟩ hK
    have s3 := b3.size
    have kW : Below w1.heap.size w1 W := kAB.trans b3
    have R2' := (R2.below k1 (by omega)).below kW (by omega)
    have R3' := (R3.below k1 (by omega)).below kW (by omega)
    have R4' := (R4.below k1 (by omega)).below kW (by omega)
    have cO := b1.cell 0 rfl
    have p2 := R2'.cell 0 rfl
    have p3 := R3'.cell 0 rfl
    have p4 := R4'.cell 0 rfl
    have f2 := R2'.frozen 0
    have f3 := R3'.frozen 0
    have f4 := R4'.frozen 0
    obtain ⟨gr, capr, rfl⟩ := row_form (n := 0) b2
    gi_wp2
    have hK2 := ((KeepsOthers.setCell W ⟨w.heap.size, 0, none⟩ (.slice (some ⟨gr, 0, none⟩) 1 capr)).trans ((KeepsOthers.setCell _ ⟨w.heap.size + 1, 0, none⟩ (.int .i64 0)).trans (KeepsOthers.setCell _ ⟨w.heap.size + 1 + 1, 0, none⟩ (.int .i64 0)))).same D _ hK rfl
    refine ⟨by simp, .inl ⟨_, _, rfl, run_takeDeferred hK2, ?_⟩⟩
    have hgp := grownBy_putObj' (((W.setCell ⟨w.heap.size, 0, none⟩ (.slice (some ⟨gr, 0, none⟩) 1 capr)).setCell ⟨w.heap.size + 1, 0, none⟩ (.int .i64 0)).setCell ⟨w.heap.size + 1 + 1, 0, none⟩ (.int .i64 0)) D (.deferred none)
    have q2 := (((R2'.put1 (.slice (some ⟨gr, 0, none⟩) 1 capr)).other (p := ⟨w.heap.size + 1, 0, none⟩) (show w.heap.size + 1 ≠ w.heap.size by omega) (.int .i64 0)).other (p := ⟨w.heap.size + 1 + 1, 0, none⟩) (show w.heap.size + 1 + 1 ≠ w.heap.size by omega) (.int .i64 0)).grown hgp (fun e => by cases e; omega)
    have q3 := (((R3'.other (p := ⟨w.heap.size, 0, none⟩) (show w.heap.size ≠ w.heap.size + 1 by omega) (.slice (some ⟨gr, 0, none⟩) 1 capr)).put1 (.int .i64 0)).other (p := ⟨w.heap.size + 1 + 1, 0, none⟩) (show w.heap.size + 1 + 1 ≠ w.heap.size + 1 by omega) (.int .i64 0)).grown hgp (fun e => by cases e; omega)
    have q4 := (((R4'.other (p := ⟨w.heap.size, 0, none⟩) (show w.heap.size ≠ w.heap.size + 1 + 1 by omega) (.slice (some ⟨gr, 0, none⟩) 1 capr)).other (p := ⟨w.heap.size + 1, 0, none⟩) (show w.heap.size + 1 ≠ w.heap.size + 1 + 1 by omega) (.int .i64 0)).put1 (.int .i64 0)).grown hgp (fun e => by cases e; omega)
    have x2 := q2.cell 0 rfl
    have x3 := q3.cell 0 rfl
    have x4 := q4.cell 0 rfl
    refine ⟨.tuple #[.slice (some ⟨gr, 0, none⟩) 1 capr, .int .i64 0, .int .i64 0], by simp [results, Tryz.results5, go_sem, x2, x3, x4], _, rfl, ?_⟩
    · exact ((((((g.trans (k1.mono (by omega))).trans (kW.mono (by omega))).setCell (p := ⟨w.heap.size, 0, none⟩) (Nat.le_refl _) _).setCell (p := ⟨w.heap.size + 1, 0, none⟩) (show w.heap.size ≤ w.heap.size + 1 by omega) _).setCell (p := ⟨w.heap.size + 1 + 1, 0, none⟩) (show w.heap.size ≤ w.heap.size + 1 + 1 by omega) _).grown hgp (by have := kW.size; simp [World.setCell]; omega) (fun k e => by cases e; omega))
end Go.Proofs.YtahfllppbfnpfaaGreatDoor

/- The walk over TopNumerals: a number's text is one token, whose array is the number. -/
namespace Go.Proofs.YtahfllppbfnpfaaGreatDoor
set_option linter.unusedVariables false
set_option linter.unusedSimpArgs false
open Go.RowKit

theorem right_zero : RightP false [] [1] := ⟨by decide, by decide, can_nil, can_one, by simp, by decide, by decide⟩

set_option maxRecDepth 100000 in
set_option maxHeartbeats 32000000 in
theorem topNumerals_walk {w : World} {bx : Bool} {a1 a2 : Option Addr} {c1 c2 : Nat} {xn xd : List Int} (h1 : Rd w.heap.size w (.slice a1 xn.length c1) xn) (h2 : Rd w.heap.size w (.slice a2 xd.length c2) xd) (htab : Lib.TabIs Tryz.prog w "internal/strconv.uint64pow10" .u64 Lib.pow10Tab) :
    Calls Tryz.prog 3 #[.agg #[.bool bx, .slice a1 xn.length c1, .slice a2 xd.length c2]] w fun e w' => e = .returned (.bool true) ∧ Below w.heap.size w w' := by
  have X := nvar_new (b := bx) h1 h2
  have g := below_alloc w (.cells #[.bool bx, .slice a1 xn.length c1, .slice a2 xd.length c2] 24)
  clear h1 h2
  obtain ⟨X0, X1, X2⟩ := X.cells
  go_enter Tryz.func3, Tryz.ntmps3
  go_wp2_with fail
  clear X0 X1 X2
  generalize hA : w.alloc (.cells #[.bool bx, .slice a1 xn.length c1, .slice a2 xd.length c2] 24) = v at *
  clear hA
  refine (print_all X.rn X.rd (tabIs_below htab g)).mono ?_
  rintro e w1 ⟨T, rfl, HP, k1⟩
  replace X := X.below k1
  replace g := g.trans (k1.mono g.size)
  clear k1
  by_cases hr : RightP bx xn xd
  · have HR : Hid (RightP bx xn xd) := hr
    obtain rfl : T = ratText bx xn xd := HP.out.1 hr
    clear hr HP
    go_wp2_with fail
    refine (all_num HR.out).mono ?_
    rintro e w2 ⟨v2, k, base, n, rfl, hrow, hN, k2⟩
    obtain ⟨gt, cap, rfl⟩ := row_form (n := 1) hrow
    have hlt : gt < w2.heap.size := (hrow.lt gt rfl).2
    have t0 := hrow.cellAt 0 (by omega)
    have t1 := hrow.cellAt 1 (by omega)
    have t3 := hrow.cellAt 3 (by omega)
    have t4 := hrow.cellAt 4 (by omega)
    simp only [numTok, endTok, Tok.cells, List.cons_append, List.nil_append, List.getElem?_cons_zero, List.getElem?_cons_succ] at t0 t1 t3 t4
    replace X := X.below k2
    replace g := g.trans (k2.mono g.size)
    clear k2 hrow
    obtain ⟨T, hTT⟩ : ∃ T, ratText bx xn xd = T := ⟨_, rfl⟩
    rw [hTT] at t1 ⊢
    clear hTT
    obtain ⟨X0, X1, X2⟩ := X.cells
    go_wp2_with fail
    clear X0 X1 X2
    refine (right_rat X.rn X.rd (Nat.le_refl _)).mono ?_
    rintro e w3 ⟨⟨r, rfl, hr⟩, k3⟩
    obtain rfl : r = true := hr.2 HR.out
    clear hr
    replace X := X.below k3
    replace g := g.trans (k3.mono g.size)
    have hN3 := hN.below k3 (Nat.le_refl _)
    have u0 := (k3.cell (p := ⟨gt, 0, none⟩) hlt).trans t0
    have u1 := (k3.cell (p := ⟨gt, 1, none⟩) hlt).trans t1
    have u3 := (k3.cell (p := ⟨gt, 3, none⟩) hlt).trans t3
    have u4 := (k3.cell (p := ⟨gt, 4, none⟩) hlt).trans t4
    have hlt3 : gt < w3.heap.size := Nat.lt_of_lt_of_le hlt k3.size
    clear t0 t1 t3 t4 k3 hN hlt
    obtain ⟨X0, X1, X2⟩ := X.cells
    have hcells : ∀ {w' : World}, Below w3.heap.size w3 w' → w'.cell? ⟨gt, 0, none⟩ = some (.int .u8 1) ∧ w'.cell? ⟨gt, 1, none⟩ = some (.string T) ∧ w'.cell? ⟨gt, 3, none⟩ = some (.slice none 0 0) ∧ w'.cell? ⟨gt, 4, none⟩ = some (.slice (some ⟨k, 0, none⟩) 1 1) ∧ w'.cell? ⟨w.heap.size, 0, none⟩ = some (.bool bx) ∧ w'.cell? ⟨w.heap.size, 1, none⟩ = some (.slice a1 xn.length c1) ∧ w'.cell? ⟨w.heap.size, 2, none⟩ = some (.slice a2 xd.length c2) := fun hb => ⟨(hb.cell (p := ⟨gt, 0, none⟩) hlt3).trans u0, (hb.cell (p := ⟨gt, 1, none⟩) hlt3).trans u1, (hb.cell (p := ⟨gt, 3, none⟩) hlt3).trans u3, (hb.cell (p := ⟨gt, 4, none⟩) hlt3).trans u4, (X.below hb).k0, (X.below hb).k1, (X.below hb).k2⟩
    have d0 : Below w3.heap.size w3 w3.drew := ⟨rfl, rfl, rfl, Nat.le_refl _, fun _ _ => rfl⟩
    have hx1 : Rd w3.drew.heap.size w3.drew (.slice a1 xn.length c1) xn := X.rn
    have hx2 : Rd w3.drew.heap.size w3.drew (.slice a2 xd.length c2) xd := X.rd
    go_wp2
    go_region_held3 (fun w' => w'.cell? ⟨gt, 0, none⟩ = some (.int .u8 1) ∧ w'.cell? ⟨gt, 1, none⟩ = some (.string T) ∧ w'.cell? ⟨gt, 3, none⟩ = some (.slice none 0 0) ∧ w'.cell? ⟨gt, 4, none⟩ = some (.slice (some ⟨k, 0, none⟩) 1 1) ∧ w'.cell? ⟨w.heap.size, 0, none⟩ = some (.bool bx) ∧ w'.cell? ⟨w.heap.size, 1, none⟩ = some (.slice a1 xn.length c1) ∧ w'.cell? ⟨w.heap.size, 2, none⟩ = some (.slice a2 xd.length c2))
      (first | (go_keep; done) | exact tw | exact tw2)
      (first
        | (have j := tw; go_at_call 7; refine (match_num (hN3.below tb (Nat.le_refl _)) hM HR.out).mono ?_; rintro e wc ⟨rfl, kc⟩; have tc : Below w3.heap.size w3 wc := tb.trans (kc.mono tb.size); have tw2 := hcells tc)
        | (go_at_call 8; refine (arrRat_any hx1 hx2).mono ?_; intro e wb hor; obtain ⟨m, rfl, hM, kb⟩ := (hor.resolve_right (fun h => h.1 HR.out)).2; have tb : Below w3.heap.size w3 wb := d0.trans (kb.mono d0.size); have tw := hcells tb))
    all_goals
      go_wp2
      go_ret
      exact ⟨rfl, g.trans (tc.mono g.size)⟩
  · have HR : Hid (¬ RightP bx xn xd) := hr
    obtain rfl : T = ⟨#[]⟩ := HP.out.2 hr
    clear hr HP
    go_wp2_with fail
    refine (all_nil (T := ⟨#[]⟩) (by decide)).mono ?_
    rintro e w2 ⟨v2, rfl, k2⟩
    replace X := X.below k2
    replace g := g.trans (k2.mono g.size)
    clear k2
    obtain ⟨X0, X1, X2⟩ := X.cells
    go_wp2_with fail
    clear X0 X1 X2
    refine (right_rat X.rn X.rd (Nat.le_refl _)).mono ?_
    rintro e w3 ⟨⟨r, rfl, hr⟩, k3⟩
    have hrf : r = false := by
      cases r with
      | false => rfl
      | true => exact absurd (hr.1 rfl) HR.out
    subst hrf
    clear hr
    replace X := X.below k3
    replace g := g.trans (k3.mono g.size)
    clear k3
    obtain ⟨X0, X1, X2⟩ := X.cells
    go_wp2_with fail
    clear X0 X1 X2
    refine (arrRat_any X.rn X.rd).mono ?_
    intro e w4 hor
    obtain ⟨m, rfl, hM, k4⟩ := (hor.resolve_left (fun h => HR.out h.1)).2
    replace g := g.trans (k4.mono g.size)
    go_wp2_with fail
    refine (arrInt_zero _).mono ?_
    rintro e w5 ⟨m', rfl, hM', k5⟩
    go_wp2_with fail
    refine (match_num (hM.below k5 (Nat.le_refl _)) hM' right_zero).mono ?_
    rintro e w6 ⟨rfl, k6⟩
    go_wp2
    go_ret
    exact ⟨rfl, (g.trans (k5.mono g.size)).trans (k6.mono (by have := g.size; have := k5.size; omega))⟩
end Go.Proofs.YtahfllppbfnpfaaGreatDoor
