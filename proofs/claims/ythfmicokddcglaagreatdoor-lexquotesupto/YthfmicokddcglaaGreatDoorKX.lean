/- A range over a function whose items are told together with what they are in memory: the iterator pays a fact on each item ahead of its round, and the body may use it. -/
import Derived.RangeFuncNested
import Derived.RangeFuncBound
import Derived.RangeFuncCalls
import Derived.RangeFuncLeaves
import Derived.RangeFuncBox
import Derived.Test.YthfmicokddcglaaGreatDoorProg
import Derived.Test.YthfmicokddcglaaGreatDoorJ3
import Derived.Laws.AppendOwnNone
namespace Go.Proofs.YthfmicokddcglaaGreatDoor
set_option linter.unusedVariables false
set_option linter.unusedSimpArgs false
open Go.RowKit

/-- An iterator's word: ahead of each item x it pays Gd (what has come, x, the world); each round goes on, keeps Kp, and leads from J at what has come to J at one more; at the end S holds of all items and the world. -/
def Pays {α : Type} (F : Fence) (n : Nat) (P : Program) (g : Nat) (lb : Array Value) (encs : α → Array Value) (Kp : World → World → Prop) (Gd : List α → α → World → Prop) (S : List α → World → Prop) (w : World) : Prop :=
  ∀ (l : Nat) (J : List α → World → Prop) (W : World), Below w.heap.size w W → AbidesFrom W.heap.size J →
    (∀ pre x W1, J pre W1 → Gd pre x W1 → YieldAt F (n - 1) P l (encs x) W1 fun e W' => e = .returned (.bool true) ∧ J (pre ++ [x]) W' ∧ Kp W1 W') →
    J [] W → CallsIn F n P g (#[.func (.yield l) #[] #[]] ++ lb) W fun e W' => (∃ v, e = .returned v) ∧ ∃ xs, S xs W' ∧ J xs W'

variable {F : Fence} {n : Nat} {P : Program} {w : World}

/-- The loop's two blocks: its record, ready, and the block for deferred calls ahead of it. -/
def Stands (L : Nat) (r : Loop) (W : World) : Prop := W.heap[L + 1]? = some (.loop r) ∧ W.heap[L]? = some (.deferred (some []))
theorem Stands.lt {L : Nat} {r : Loop} {W : World} (h : Stands L r W) : L + 1 < W.heap.size := (Array.getElem?_eq_some_iff.1 h.1).1
theorem Stands.keeps {L : Nat} {r : Loop} {W W' : World} (h : Stands L r W) (hk : KeepsFrom L W W') : Stands L r W' := ⟨hk.same _ _ (by omega) h.1 rfl, hk.same _ _ (Nat.le_refl _) h.2 rfl⟩
theorem Stands.put {L : Nat} {r : Loop} {W : World} (h : Stands L r W) (r' : Loop) : Stands L r' (W.putObj (L + 1) (.loop r')) := ⟨World.putObj_heap_same h.lt, (World.putObj_heap_other (by omega)).trans h.2⟩
theorem Stands.grown {L : Nat} {r : Loop} {W W' : World} {row : Option Nat} (h : Stands L r W) (hg : W.grownBy W' row) (hr : ∀ k, row = some k → ∃ o : Obj, W.heap[k]? = some o ∧ o.isWalk = true) : Stands L r W' :=
  ⟨(grownBy_keeps hg hr h.1 rfl).trans h.1, (grownBy_keeps hg hr h.2 rfl).trans h.2⟩

section
variable {α : Type} {g : Operand} {ps : Array Tmp} {assign body : Code} {Q : Exit → Act → World → Prop} {a : Act} {gf : Nat} {lb : Array Value} {encs : α → Array Value} {Kp : World → World → Prop} {Gd : List α → α → World → Prop} {S : List α → World → Prop} {w0 : World}

/-- One round of such a loop. -/
theorem round_pays {fn : FuncId} {r : Loop} (hfn : F.fn fn) (hr : r = { state := .ready, pending := none, fn, tmps := a.tmps, params := ps, assign, body, defers := w.heap.size })
    (hKt : ∀ {A B C : World}, Kp A B → Kp B C → Kp A C) (hKb : ∀ (W : World) (l : Nat) (o o' : Obj), w.heap.size ≤ l → W.heap[l]? = some o → o.isCells = false → o.isWalk = false → Kp W (W.putObj l o')) (hps : ∀ x, (encs x).size = ps.size)
    (I : List α → World → Prop) (hI : OwnFrom w.heap.size I) (Ax : List α → α → Act → World → Prop) (hAx : ∀ pre x a', OwnFrom w.heap.size (fun (_ : Unit) W => Ax pre x a' W))
    (hassign : ∀ (l : Nat) (pre : List α) (x : α) (W : World) (K : Act → World → Prop), I pre W → Gd pre x W → (∀ a' W', KeepsFrom w.heap.size W W' → Kp W W' → I pre W' → Ax pre x a' W' → K a' W') →
      assign.wpIn (F.inRound l) (n - 1 - 1) P (Exit.then K (fun _ _ _ => False)) { tmps := (ps.zip (encs x)).foldl (fun t (p, v) => t.setIfInBounds p v) a.tmps, defers := [] } W)
    (hbody : ∀ (l : Nat) (pre : List α) (x : α) (a' : Act) (W : World), I pre W → Ax pre x a' W → body.wpIn (F.inRound l) (n - 1 - 1) P (fun e _ W' => e = .normal ∧ KeepsFrom w.heap.size W W' ∧ Kp W W' ∧ I (pre ++ [x]) W') a' W)
    (pre : List α) (x : α) (W : World) (hi : I pre W) (hst : Stands w.heap.size r W) (hG : Gd pre x W) :
    YieldAt F (n - 1 - 1) P (w.heap.size + 1) (encs x) W fun e W' => e = .returned (.bool true) ∧ (I (pre ++ [x]) W' ∧ Stands w.heap.size r W') ∧ Kp W W' := by
  have hy := run_yield (P := P) (args := encs x) hst.1 (by rw [hr]; exact hps x)
  rw [hr] at hy
  refine ⟨fn, _, assign, body, hy, roundIn_of_wpIn hfn (hassign _ pre x W _ hi hG ?_)⟩
  intro a' Wa hka hkp hia hax
  have hs1 := hst.keeps hka
  refine ⟨_, run_beginRound hs1.1 (by rw [hr]), ?_⟩
  have hs2 := hs1.put { r with state := .busy }
  have hk2 : Kp Wa _ := hKb Wa (w.heap.size + 1) _ (.loop { r with state := .busy }) (by omega) hs1.1 rfl rfl
  refine wpIn_mono (hbody _ pre x a' _ (hI.putObj _ hia (by omega) hs1.1 rfl) ((hAx pre x a').putObj (s := ()) _ hax (by omega) hs1.1 rfl)) ?_
  rintro e a3 W3 ⟨rfl, hk3, hkp3, hi3⟩
  have hs3 := hs2.keeps hk3
  have he := run_endRound (P := P) none hs3.1
  have er : ({ r with state := .busy } : Loop) = { r with state := .busy } := rfl
  have e4 : ({ ({ r with state := .busy } : Loop) with state := if (none : Option Code).isNone then .ready else .done, pending := none } : Loop) = r := by rw [hr]; rfl
  rw [e4] at he
  exact ⟨_, _, he, rfl, ⟨hI.putObj _ hi3 (by omega) hs3.1 rfl, hs3.put r⟩, hKt hkp (hKt hk2 (hKt hkp3 (hKb W3 (w.heap.size + 1) _ _ (by omega) hs3.1 rfl rfl)))⟩

theorem wpIn_range_pays (hro : F.round = none) (h1 : 1 ≤ n) (hg : a.eval g = .func (.func gf) #[] lb) (hFg : F.fn gf) (eg : ∀ args w, (callFunc gf args).run P w = .ok (.enter gf args) w)
    (hseq : Pays F (n - 1) P gf lb encs Kp Gd S w0) (hKt : ∀ {A B C : World}, Kp A B → Kp B C → Kp A C) (hKb : ∀ (W : World) (l : Nat) (o o' : Obj), w.heap.size ≤ l → W.heap[l]? = some o → o.isCells = false → o.isWalk = false → Kp W (W.putObj l o')) (hb0 : Below w0.heap.size w0 w) (hps : ∀ x, (encs x).size = ps.size)
    (I : List α → World → Prop) (hI : OwnFrom w.heap.size I) (h0 : I [] w) (hS : OwnFrom w.heap.size S) (Ax : List α → α → Act → World → Prop) (hAx : ∀ pre x a', OwnFrom w.heap.size (fun (_ : Unit) W => Ax pre x a' W))
    (hassign : ∀ (l : Nat) (pre : List α) (x : α) (W : World) (K : Act → World → Prop), I pre W → Gd pre x W → (∀ a' W', KeepsFrom w.heap.size W W' → Kp W W' → I pre W' → Ax pre x a' W' → K a' W') →
      assign.wpIn (F.inRound l) (n - 1 - 1) P (Exit.then K (fun _ _ _ => False)) { tmps := (ps.zip (encs x)).foldl (fun t (p, v) => t.setIfInBounds p v) a.tmps, defers := [] } W)
    (hbody : ∀ (l : Nat) (pre : List α) (x : α) (a' : Act) (W : World), I pre W → Ax pre x a' W → body.wpIn (F.inRound l) (n - 1 - 1) P (fun e _ W' => e = .normal ∧ KeepsFrom w.heap.size W W' ∧ Kp W W' ∧ I (pre ++ [x]) W') a' W)
    (hdone : ∀ (D : Nat) (xs : List α) (W : World), w.heap.size ≤ D → S xs W → I xs W → W.heap[D]? = some (.deferred (some [])) → Q .normal { a with defers := { target := .collected D, args := #[] } :: a.defers } W) :
    (Code.rangeFunc g ps assign body).wpIn F n P Q a w := by
  refine wpIn_rangeFunc fun fn hfn => ?_
  obtain ⟨r, hr⟩ : ∃ r : Loop, r = { state := .ready, pending := none, fn, tmps := a.tmps, params := ps, assign, body, defers := w.heap.size } := ⟨_, rfl⟩
  have hs0 : Stands w.heap.size r ((w.alloc (.deferred (some []))).alloc (.loop r)) := by
    refine ⟨?_, (Below.heap_alloc _ _ _ (by simp)).trans (World.alloc_heap_new w _)⟩
    have := World.alloc_heap_new (w.alloc (.deferred (some []))) (.loop r)
    rwa [World.size_alloc] at this
  have hi0 : I [] ((w.alloc (.deferred (some []))).alloc (.loop r)) := hI.alloc _ (hI.alloc _ h0)
  have hb1 : Below w0.heap.size w0 ((w.alloc (.deferred (some []))).alloc (.loop r)) := hb0.trans ((((Below.refl _ w).alloc (Nat.le_refl _) _).alloc (by simp) _).mono hb0.size)
  have hz : w.heap.size ≤ ((w.alloc (.deferred (some []))).alloc (.loop r)).heap.size := by simp; omega
  have he : (Instr.enterLoop fn a.tmps ps assign body F.round).run P w = .ok (w.heap.size + 1, [{ target := .collected w.heap.size, args := #[] }]) ((w.alloc (.deferred (some []))).alloc (.loop r)) := by
    rw [hro, hr]; exact run_enterLoop_outer _ _ _ _ _
  generalize (w.alloc (.deferred (some []))).alloc (.loop r) = W1 at *
  refine ⟨w.heap.size + 1, _, W1, { target := .fn (.func gf) lb, args := #[.func (.yield (w.heap.size + 1)) #[] #[]] }, W1, gf, #[.func (.yield (w.heap.size + 1)) #[] #[]] ++ lb, W1, he, ?_, ?_, ?_, fun _ => h1, ?_⟩
  · simp only [resolve, hg]
    simp [go_sem]
  · intro f' hf'; simp [Target.leads] at hf'; subst hf'; exact hFg
  · simp [invoke, go_sem, eg]
  · have hwalk : ∀ {A : World} {row : Option Nat}, (∀ k, row = some k → W1.heap.size ≤ k ∧ ∃ o : Obj, A.heap[k]? = some o ∧ o.isWalk = true) → (∀ k, row = some k → w.heap.size ≤ k ∧ ∃ o : Obj, A.heap[k]? = some o ∧ o.isCells = false) :=
      fun h k e => by obtain ⟨hB, o, ho, hw⟩ := h k e; exact ⟨by omega, o, ho, Obj.not_cells_of_walk hw⟩
    refine (hseq (w.heap.size + 1) (fun pre W => I pre W ∧ Stands w.heap.size r W) W1 hb1 (fun s A B row hs hg' hrow => ⟨hI s A B row hs.1 hg' (hwalk hrow), hs.2.grown hg' (fun k e => (hrow k e).2)⟩)
      (fun pre x W hJ hG => round_pays (n := n) (P := P) (w := w) (a := a) (Kp := Kp) (Gd := Gd) hfn hr (fun h h' => hKt h h') hKb hps I hI Ax hAx hassign hbody pre x W hJ.1 hJ.2 hG) ⟨hi0, hs0⟩).mono ?_
    rintro e W2 ⟨⟨v, rfl⟩, xs, hxs, hi, hst⟩
    have hend := run_endLoop (P := P) hst.1 (by rw [hr]; simp)
    have hp : r.pending = none := by rw [hr]
    rw [hp] at hend
    exact ⟨none, _, hend, hdone _ xs _ (Nat.le_refl _) (hS.putObj _ hxs (by omega) hst.1 rfl) (hI.putObj _ hi (by omega) hst.1 rfl) ((World.putObj_heap_other (by omega)).trans hst.2)⟩
end
end Go.Proofs.YthfmicokddcglaaGreatDoor

/- As RangeG, where the body may also leave the loop. -/
namespace Go.Proofs.YthfmicokddcglaaGreatDoor
set_option linter.unusedVariables false
set_option linter.unusedSimpArgs false
open Go.RowKit

/-- An iterator's word, where a round may say 'no more': then Jx holds, and the iterator ends. -/
def PaysX {α : Type} (F : Fence) (n : Nat) (P : Program) (g : Nat) (lb : Array Value) (encs : α → Array Value) (Kp : World → World → Prop) (Gd : List α → α → World → Prop) (S : List α → World → Prop) (Sp : List α → Prop) (w : World) : Prop :=
  ∀ (l : Nat) (J Jx : List α → World → Prop) (W : World), Below w.heap.size w W → AbidesFrom W.heap.size J → AbidesFrom W.heap.size Jx →
    (∀ pre x W1, J pre W1 → Gd pre x W1 → YieldAt F (n - 1) P l (encs x) W1 fun e W' => (e = .returned (.bool true) ∧ J (pre ++ [x]) W' ∧ Kp W1 W') ∨ (e = .returned (.bool false) ∧ Jx (pre ++ [x]) W')) →
    J [] W → CallsIn F n P g (#[.func (.yield l) #[] #[]] ++ lb) W fun e W' => (∃ v, e = .returned v) ∧ ((∃ xs, S xs W' ∧ J xs W') ∨ (∃ xs, Sp xs ∧ Jx xs W'))

variable {F : Fence} {n : Nat} {P : Program} {w : World}
section
variable {α : Type} {g : Operand} {ps : Array Tmp} {assign body : Code} {Q : Exit → Act → World → Prop} {a : Act} {gf : Nat} {lb : Array Value} {encs : α → Array Value} {Kp : World → World → Prop} {Gd : List α → α → World → Prop} {S : List α → World → Prop} {Sp : List α → Prop} {w0 : World}

/-- How a round's end is told to the record. -/
theorem end_round {r : Loop} {L : Nat} {W3 : World} (hs : Stands L { r with state := .busy } W3) (hp : r.pending = none) (hst : r.state = .ready) (jump : Option Code) :
    (Instr.endRound (L + 1) jump).run P W3 = .ok (.bool jump.isNone) (W3.putObj (L + 1) (.loop { r with state := if jump.isNone then .ready else .done, pending := jump })) :=
  run_endRound (P := P) (r := { r with state := .busy }) jump hs.1

theorem round_paysX {fn : FuncId} {r : Loop} (hfn : F.fn fn) (hr : r = { state := .ready, pending := none, fn, tmps := a.tmps, params := ps, assign, body, defers := w.heap.size })
    (hKt : ∀ {A B C : World}, Kp A B → Kp B C → Kp A C) (hKb : ∀ (W : World) (l : Nat) (o o' : Obj), w.heap.size ≤ l → W.heap[l]? = some o → o.isCells = false → o.isWalk = false → Kp W (W.putObj l o')) (hps : ∀ x, (encs x).size = ps.size)
    (I : List α → World → Prop) (hI : OwnFrom w.heap.size I) (Ix : Code → List α → World → Prop) (hIx : ∀ c, OwnFrom w.heap.size (Ix c)) (Ax : List α → α → Act → World → Prop) (hAx : ∀ pre x a', OwnFrom w.heap.size (fun (_ : Unit) W => Ax pre x a' W))
    (hassign : ∀ (l : Nat) (pre : List α) (x : α) (W : World) (K : Act → World → Prop), I pre W → Gd pre x W → (∀ a' W', KeepsFrom w.heap.size W W' → Kp W W' → I pre W' → Ax pre x a' W' → K a' W') →
      assign.wpIn (F.inRound l) (n - 1 - 1) P (Exit.then K (fun _ _ _ => False)) { tmps := (ps.zip (encs x)).foldl (fun t (p, v) => t.setIfInBounds p v) a.tmps, defers := [] } W)
    (hbody : ∀ (l : Nat) (pre : List α) (x : α) (a' : Act) (W : World), I pre W → Ax pre x a' W → body.wpIn (F.inRound l) (n - 1 - 1) P (ownPostG w.heap.size Kp I Ix (pre ++ [x]) W) a' W)
    (pre : List α) (x : α) (W : World) (hi : I pre W) (hst : Stands w.heap.size r W) (hG : Gd pre x W) :
    YieldAt F (n - 1 - 1) P (w.heap.size + 1) (encs x) W fun e W' => (e = .returned (.bool true) ∧ (I (pre ++ [x]) W' ∧ Stands w.heap.size r W') ∧ Kp W W') ∨ (e = .returned (.bool false) ∧ ∃ c, Ix c (pre ++ [x]) W' ∧ Stands w.heap.size { r with state := .done, pending := some c } W') := by
  have hy := run_yield (P := P) (args := encs x) hst.1 (by rw [hr]; exact hps x)
  rw [hr] at hy
  refine ⟨fn, _, assign, body, hy, roundIn_of_wpIn hfn (hassign _ pre x W _ hi hG ?_)⟩
  intro a' Wa hka hkp hia hax
  have hs1 := hst.keeps hka
  refine ⟨_, run_beginRound hs1.1 (by rw [hr]), ?_⟩
  have hs2 := hs1.put { r with state := .busy }
  have hk2 : Kp Wa _ := hKb Wa (w.heap.size + 1) _ (.loop { r with state := .busy }) (by omega) hs1.1 rfl rfl
  refine wpIn_mono (hbody _ pre x a' _ (hI.putObj _ hia (by omega) hs1.1 rfl) ((hAx pre x a').putObj (s := ()) _ hax (by omega) hs1.1 rfl)) ?_
  have hrd : r.state = .ready ∧ r.pending = none := by rw [hr]; exact ⟨rfl, rfl⟩
  have leave : ∀ (c : Code) (W3 : World), KeepsFrom w.heap.size (Wa.putObj (w.heap.size + 1) (.loop { r with state := .busy })) W3 → Ix c (pre ++ [x]) W3 → ∃ v W4, (Instr.endRound (w.heap.size + 1) (some c)).run P W3 = .ok v W4 ∧
      ((Ending.returned v = .returned (.bool true) ∧ (I (pre ++ [x]) W4 ∧ Stands w.heap.size r W4) ∧ Kp W W4) ∨ (Ending.returned v = .returned (.bool false) ∧ ∃ c, Ix c (pre ++ [x]) W4 ∧ Stands w.heap.size { r with state := .done, pending := some c } W4)) := fun c W3 hk3 hi3 => by
    have hs3 := hs2.keeps hk3
    exact ⟨_, _, end_round hs3 hrd.2 hrd.1 (some c), Or.inr ⟨rfl, c, (hIx c).putObj _ hi3 (by omega) hs3.1 rfl, hs3.put _⟩⟩
  rintro e a3 W3 hp
  cases e with
  | normal =>
    obtain ⟨hk3, hkp3, hi3⟩ := hp
    have hs3 := hs2.keeps hk3
    have he := end_round (P := P) hs3 hrd.2 hrd.1 none
    have e4 : ({ r with state := if (none : Option Code).isNone then .ready else .done, pending := none } : Loop) = r := by rw [hr]; rfl
    rw [e4] at he
    exact ⟨_, _, he, Or.inl ⟨rfl, ⟨hI.putObj _ hi3 (by omega) hs3.1 rfl, hs3.put r⟩, hKt hkp (hKt hk2 (hKt hkp3 (hKb W3 (w.heap.size + 1) _ _ (by omega) hs3.1 rfl rfl)))⟩⟩
  | ret => exact leave .ret W3 hp.1 hp.2
  | exit id => exact leave (.exit id) W3 hp.1 hp.2
  | goto t => exact leave (.goto t) W3 hp.1 hp.2
  | panic ch => exact hp.elim
  | outgrown => exact hp.elim

theorem wpIn_range_paysX (hro : F.round = none) (h1 : 1 ≤ n) (hg : a.eval g = .func (.func gf) #[] lb) (hFg : F.fn gf) (eg : ∀ args w, (callFunc gf args).run P w = .ok (.enter gf args) w)
    (hseq : PaysX F (n - 1) P gf lb encs Kp Gd S Sp w0) (hKt : ∀ {A B C : World}, Kp A B → Kp B C → Kp A C) (hKb : ∀ (W : World) (l : Nat) (o o' : Obj), w.heap.size ≤ l → W.heap[l]? = some o → o.isCells = false → o.isWalk = false → Kp W (W.putObj l o')) (hb0 : Below w0.heap.size w0 w) (hps : ∀ x, (encs x).size = ps.size)
    (I : List α → World → Prop) (hI : OwnFrom w.heap.size I) (h0 : I [] w) (hS : OwnFrom w.heap.size S) (Ix : Code → List α → World → Prop) (hIx : ∀ c, OwnFrom w.heap.size (Ix c)) (Ax : List α → α → Act → World → Prop) (hAx : ∀ pre x a', OwnFrom w.heap.size (fun (_ : Unit) W => Ax pre x a' W))
    (hassign : ∀ (l : Nat) (pre : List α) (x : α) (W : World) (K : Act → World → Prop), I pre W → Gd pre x W → (∀ a' W', KeepsFrom w.heap.size W W' → Kp W W' → I pre W' → Ax pre x a' W' → K a' W') →
      assign.wpIn (F.inRound l) (n - 1 - 1) P (Exit.then K (fun _ _ _ => False)) { tmps := (ps.zip (encs x)).foldl (fun t (p, v) => t.setIfInBounds p v) a.tmps, defers := [] } W)
    (hbody : ∀ (l : Nat) (pre : List α) (x : α) (a' : Act) (W : World), I pre W → Ax pre x a' W → body.wpIn (F.inRound l) (n - 1 - 1) P (ownPostG w.heap.size Kp I Ix (pre ++ [x]) W) a' W)
    (hdone : ∀ (D : Nat) (xs : List α) (W : World), w.heap.size ≤ D → S xs W → I xs W → W.heap[D]? = some (.deferred (some [])) → Q .normal { a with defers := { target := .collected D, args := #[] } :: a.defers } W)
    (hstop : ∀ (D : Nat) (c : Code) (xs : List α) (W : World), w.heap.size ≤ D → Sp xs → Ix c xs W → W.heap[D]? = some (.deferred (some [])) → c.wpIn F n P Q { a with defers := { target := .collected D, args := #[] } :: a.defers } W) :
    (Code.rangeFunc g ps assign body).wpIn F n P Q a w := by
  refine wpIn_rangeFunc fun fn hfn => ?_
  obtain ⟨r, hr⟩ : ∃ r : Loop, r = { state := .ready, pending := none, fn, tmps := a.tmps, params := ps, assign, body, defers := w.heap.size } := ⟨_, rfl⟩
  have hs0 : Stands w.heap.size r ((w.alloc (.deferred (some []))).alloc (.loop r)) := by
    refine ⟨?_, (Below.heap_alloc _ _ _ (by simp)).trans (World.alloc_heap_new w _)⟩
    have := World.alloc_heap_new (w.alloc (.deferred (some []))) (.loop r)
    rwa [World.size_alloc] at this
  have hi0 : I [] ((w.alloc (.deferred (some []))).alloc (.loop r)) := hI.alloc _ (hI.alloc _ h0)
  have hb1 : Below w0.heap.size w0 ((w.alloc (.deferred (some []))).alloc (.loop r)) := hb0.trans ((((Below.refl _ w).alloc (Nat.le_refl _) _).alloc (by simp) _).mono hb0.size)
  have hz : w.heap.size ≤ ((w.alloc (.deferred (some []))).alloc (.loop r)).heap.size := by simp; omega
  have he : (Instr.enterLoop fn a.tmps ps assign body F.round).run P w = .ok (w.heap.size + 1, [{ target := .collected w.heap.size, args := #[] }]) ((w.alloc (.deferred (some []))).alloc (.loop r)) := by
    rw [hro, hr]; exact run_enterLoop_outer _ _ _ _ _
  generalize (w.alloc (.deferred (some []))).alloc (.loop r) = W1 at *
  refine ⟨w.heap.size + 1, _, W1, { target := .fn (.func gf) lb, args := #[.func (.yield (w.heap.size + 1)) #[] #[]] }, W1, gf, #[.func (.yield (w.heap.size + 1)) #[] #[]] ++ lb, W1, he, ?_, ?_, ?_, fun _ => h1, ?_⟩
  · simp only [resolve, hg]
    simp [go_sem]
  · intro f' hf'; simp [Target.leads] at hf'; subst hf'; exact hFg
  · simp [invoke, go_sem, eg]
  · have hwalk : ∀ {A : World} {row : Option Nat}, (∀ k, row = some k → W1.heap.size ≤ k ∧ ∃ o : Obj, A.heap[k]? = some o ∧ o.isWalk = true) → (∀ k, row = some k → w.heap.size ≤ k ∧ ∃ o : Obj, A.heap[k]? = some o ∧ o.isCells = false) :=
      fun h k e => by obtain ⟨hB, o, ho, hw⟩ := h k e; exact ⟨by omega, o, ho, Obj.not_cells_of_walk hw⟩
    refine (hseq (w.heap.size + 1) (fun pre W => I pre W ∧ Stands w.heap.size r W) (fun pre W => ∃ c, Ix c pre W ∧ Stands w.heap.size { r with state := .done, pending := some c } W) W1 hb1
      (fun s A B row hs hg' hrow => ⟨hI s A B row hs.1 hg' (hwalk hrow), hs.2.grown hg' (fun k e => (hrow k e).2)⟩)
      (fun s A B row hs hg' hrow => by obtain ⟨c, h1, h2⟩ := hs; exact ⟨c, hIx c s A B row h1 hg' (hwalk hrow), h2.grown hg' (fun k e => (hrow k e).2)⟩)
      (fun pre x W hJ hG => round_paysX (n := n) (P := P) (w := w) (a := a) (Kp := Kp) (Gd := Gd) hfn hr (fun h h' => hKt h h') hKb hps I hI Ix hIx Ax hAx hassign hbody pre x W hJ.1 hJ.2 hG) ⟨hi0, hs0⟩).mono ?_
    rintro e W2 ⟨⟨v, rfl⟩, ⟨xs, hxs, hi, hst⟩ | ⟨xs, hsp, c, hi, hst⟩⟩
    · have hend := run_endLoop (P := P) hst.1 (by rw [hr]; simp)
      have hp : r.pending = none := by rw [hr]
      rw [hp] at hend
      exact ⟨none, _, hend, hdone _ xs _ (Nat.le_refl _) (hS.putObj _ hxs (by omega) hst.1 rfl) (hI.putObj _ hi (by omega) hst.1 rfl) ((World.putObj_heap_other (by omega)).trans hst.2)⟩
    · have hend := run_endLoop (P := P) hst.1 (by simp)
      exact ⟨some c, _, hend, hstop _ c xs _ (Nat.le_refl _) hsp ((hIx c).putObj _ hi (by omega) hst.1 rfl) ((World.putObj_heap_other (by omega)).trans hst.2)⟩
end
end Go.Proofs.YthfmicokddcglaaGreatDoor

/- Items of numbers, and scalars of them. -/
namespace Go.Proofs.YthfmicokddcglaaGreatDoor
set_option linter.unusedVariables false
set_option linter.unusedSimpArgs false
open Go.RowKit

/-- A block of cells. -/
def BoxA (w : World) (B ty : Nat) (xs : Array Value) : Prop := w.heap[B]? = some (.cells xs ty (0, 0))
section
variable {w w' : World} {B ty base : Nat} {xs : Array Value}
theorem boxA_new (w : World) (xs : Array Value) (ty : Nat) : BoxA (w.alloc (.cells xs ty)) w.heap.size ty xs := heap_alloc_new _ _
theorem BoxA.lt (h : BoxA w B ty xs) : B < w.heap.size := by
  unfold BoxA at h
  exact (Array.getElem?_eq_some_iff.1 h).1
theorem BoxA.below (h : BoxA w B ty xs) (hb : Below base w w') (hB : B < base) : BoxA w' B ty xs := by
  unfold BoxA at *
  rw [hb.block B hB]; exact h
theorem BoxA.cell (h : BoxA w B ty xs) (i : Nat) {v : Value} (hv : xs[i]? = some v) : w.cell? ⟨B, i, none⟩ = some v := by
  unfold BoxA at h
  simp [World.cell?, h, hv]
theorem BoxA.frozen (h : BoxA w B ty xs) (i : Nat) : w.frozen? ⟨B, i, none⟩ = false := by
  unfold BoxA at h
  simp [World.frozen?, h]
end
/-- The cells of a number as an item. -/
def numCells (b : Bool) (a1 : Option Addr) (n1 c1 : Nat) (a2 : Option Addr) (n2 c2 : Nat) : Array Value := #[.int .u8 1, .bool b, .slice a1 n1 c1, .slice a2 n2 c2, .int .i32 0, .slice none 0 0]
theorem BoxA.num {w : World} {B ty : Nat} {b : Bool} {a1 a2 : Option Addr} {n1 n2 c1 c2 : Nat} (h : BoxA w B ty #[.int .u8 1, .bool b, .slice a1 n1 c1, .slice a2 n2 c2, .int .i32 0, .slice none 0 0]) :
    w.cell? ⟨B, 0, none⟩ = some (.int .u8 1) ∧ w.cell? ⟨B, 1, none⟩ = some (.bool b) ∧ w.cell? ⟨B, 2, none⟩ = some (.slice a1 n1 c1) ∧ w.cell? ⟨B, 3, none⟩ = some (.slice a2 n2 c2) ∧ w.cell? ⟨B, 4, none⟩ = some (.int .i32 0) ∧ w.cell? ⟨B, 5, none⟩ = some (.slice none 0 0) :=
  ⟨h.cell 0 rfl, h.cell 1 rfl, h.cell 2 rfl, h.cell 3 rfl, h.cell 4 rfl, h.cell 5 rfl⟩

section
variable {w : World} {b : Bool} {a1 a2 : Option Addr} {n1 n2 c1 c2 : Nat}
set_option maxRecDepth 100000 in
set_option maxHeartbeats 1600000 in
theorem number_any :
    Calls Tryz.prog 78 #[.agg #[.bool b, .slice a1 n1 c1, .slice a2 n2 c2]] w fun e w' => e = .returned (.agg #[.int .u8 1, .bool b, .slice a1 n1 c1, .slice a2 n2 c2, .int .i32 0, .slice none 0 0]) ∧ Below w.heap.size w w' := by
  have hb := boxA_new (w.alloc (.cells #[.bool b, .slice a1 n1 c1, .slice a2 n2 c2] 42)) #[.int .u8 1, .bool b, .slice a1 n1 c1, .slice a2 n2 c2, .int .i32 0, .slice none 0 0] 45
  rw [World.size_alloc] at hb
  have g := ((Below.refl w.heap.size w).alloc (Nat.le_refl _) (.cells #[.bool b, .slice a1 n1 c1, .slice a2 n2 c2] 42)).alloc (by simp) (.cells #[.int .u8 1, .bool b, .slice a1 n1 c1, .slice a2 n2 c2, .int .i32 0, .slice none 0 0] 45)
  go_enter Tryz.func78, Tryz.ntmps78
  go_wp2
  obtain ⟨r0, r1, r2, r3, r4, r5⟩ := hb.num
  refine bodyPost_ret (v := .agg #[.int .u8 1, .bool b, .slice a1 n1 c1, .slice a2 n2 c2, .int .i32 0, .slice none 0 0]) (by simp [results, Tryz.results78, go_sem, r0, r1, r2, r3, r4, r5]) rfl ?_
  exact ⟨rfl, g⟩

/-- A scalar of a number: its one item lies in block k. -/
def scalarOf (k : Nat) : Value := .agg #[.slice none 0 0, .slice (some ⟨k, 0, none⟩) 1 1]

set_option maxRecDepth 100000 in
set_option maxHeartbeats 1600000 in
theorem scalar_any :
    Calls Tryz.prog 76 #[.agg #[.int .u8 1, .bool b, .slice a1 n1 c1, .slice a2 n2 c2, .int .i32 0, .slice none 0 0]] w fun e w' => ∃ k, e = .returned (.agg #[.slice none 0 0, .slice (some ⟨k, 0, none⟩) 1 1]) ∧ w.heap.size ≤ k ∧ BoxA w' k 45 #[.int .u8 1, .bool b, .slice a1 n1 c1, .slice a2 n2 c2, .int .i32 0, .slice none 0 0] ∧ Below w.heap.size w w' := by
  have g1 := (Below.refl w.heap.size w).alloc (Nat.le_refl _) (.cells #[.int .u8 1, .bool b, .slice a1 n1 c1, .slice a2 n2 c2, .int .i32 0, .slice none 0 0] 45)
  have g2 := g1.alloc (by simp) (.cells #[.slice none 0 0, .slice (some ⟨w.heap.size + 1 + 1, 0, none⟩) 1 1] 35)
  have g3 := g2.alloc (by simp; omega) (.cells #[.int .u8 1, .bool b, .slice a1 n1 c1, .slice a2 n2 c2, .int .i32 0, .slice none 0 0] 45)
  have hk := boxA_new ((w.alloc (.cells #[.int .u8 1, .bool b, .slice a1 n1 c1, .slice a2 n2 c2, .int .i32 0, .slice none 0 0] 45)).alloc (.cells #[.slice none 0 0, .slice (some ⟨w.heap.size + 1 + 1, 0, none⟩) 1 1] 35)) #[.int .u8 1, .bool b, .slice a1 n1 c1, .slice a2 n2 c2, .int .i32 0, .slice none 0 0] 45
  rw [World.size_alloc, World.size_alloc] at hk
  have hb := boxA_new (w.alloc (.cells #[.int .u8 1, .bool b, .slice a1 n1 c1, .slice a2 n2 c2, .int .i32 0, .slice none 0 0] 45)) #[.slice none 0 0, .slice (some ⟨w.heap.size + 1 + 1, 0, none⟩) 1 1] 35
  have hb2 := hb.below (below_alloc _ (.cells #[.int .u8 1, .bool b, .slice a1 n1 c1, .slice a2 n2 c2, .int .i32 0, .slice none 0 0] 45)) (by simp)
  rw [World.size_alloc] at hb2
  go_enter Tryz.func76, Tryz.ntmps76
  go_wp2
  have r0 := hb2.cell 0 rfl
  have r1 := hb2.cell 1 rfl
  refine bodyPost_ret (v := .agg #[.slice none 0 0, .slice (some ⟨w.heap.size + 1 + 1, 0, none⟩) 1 1]) (by simp [results, Tryz.results76, go_sem, r0, r1]) rfl ?_
  exact ⟨_, rfl, by omega, hk, g3⟩
end

section
variable {w w' : World} {B ty base : Nat} {u0 u1 u2 u3 u4 u5 : Value}
theorem BoxA.set6 (h : BoxA w B ty #[u0, u1, u2, u3, u4, u5]) (v0 v1 v2 v3 v4 v5 : Value) : BoxA ((((((w.setCell ⟨B, 0, none⟩ v0).setCell ⟨B, 1, none⟩ v1).setCell ⟨B, 2, none⟩ v2).setCell ⟨B, 3, none⟩ v3).setCell ⟨B, 4, none⟩ v4).setCell ⟨B, 5, none⟩ v5) B ty #[v0, v1, v2, v3, v4, v5] := by
  unfold BoxA at h ⊢
  simp [World.setCell, Array.getElem?_modify, h]
theorem Below.set6 (h : Below base w w') (hB : base ≤ B) (v0 v1 v2 v3 v4 v5 : Value) : Below base w ((((((w'.setCell ⟨B, 0, none⟩ v0).setCell ⟨B, 1, none⟩ v1).setCell ⟨B, 2, none⟩ v2).setCell ⟨B, 3, none⟩ v3).setCell ⟨B, 4, none⟩ v4).setCell ⟨B, 5, none⟩ v5) :=
  (((((h.setCell (p := ⟨B, 0, none⟩) hB _).setCell (p := ⟨B, 1, none⟩) hB _).setCell (p := ⟨B, 2, none⟩) hB _).setCell (p := ⟨B, 3, none⟩) hB _).setCell (p := ⟨B, 4, none⟩) hB _).setCell (p := ⟨B, 5, none⟩) hB _
theorem Own.set6 {v : Value} {xs : List Int} (h : Own base w v xs) (hB : B < base) (v0 v1 v2 v3 v4 v5 : Value) : Own base ((((((w.setCell ⟨B, 0, none⟩ v0).setCell ⟨B, 1, none⟩ v1).setCell ⟨B, 2, none⟩ v2).setCell ⟨B, 3, none⟩ v3).setCell ⟨B, 4, none⟩ v4).setCell ⟨B, 5, none⟩ v5) v xs := by
  have e : v.ownBlock ≠ some B := ownBlock_ne h hB
  exact (((((h.setCell (a := ⟨B, 0, none⟩) e _).setCell (a := ⟨B, 1, none⟩) e _).setCell (a := ⟨B, 2, none⟩) e _).setCell (a := ⟨B, 3, none⟩) e _).setCell (a := ⟨B, 4, none⟩) e _).setCell (a := ⟨B, 5, none⟩) e _
end

theorem rd_parts' {B : Nat} {w : World} {a : Option Addr} {c : Nat} {xs : List Int} (h : Rd B w (.slice a xs.length c) xs) : (a = none ∧ xs = [] ∧ c = 0) ∨ ∃ ad, a = some ad ∧ ∀ j u, (xs.map (Value.int .u32))[j]? = some u → w.cell? (ad.add j) = some u := by
  obtain ⟨_, a', c', e, h1, h2, h3, h4⟩ := h
  have ea : a' = a ∧ c' = c := by cases e; exact ⟨rfl, rfl⟩
  obtain ⟨rfl, rfl⟩ := ea
  cases a' with
  | none =>
    have := h3 rfl
    subst this
    exact Or.inl ⟨rfl, List.eq_nil_of_length_eq_zero (by omega), rfl⟩
  | some ad =>
    refine Or.inr ⟨ad, rfl, ?_⟩
    rcases h4 with h4 | ⟨b, off, e2, _, hc⟩
    · have : xs = [] := List.eq_nil_of_length_eq_zero h4
      subst this
      intro j u h; simp at h
    · cases e2
      exact cells_news hc
/-- Limbs that are appended to none: their copy. -/
theorem append_nil_list {B : Nat} {w : World} {ops : Array Oper} {rest : List Oper} {o : Oper} {a : Act} {Q : Exit → Act → World → Prop} {a1 : Option Addr} {c1 : Nat} {ns : List Int} (hgd : o.guard = none) (s x : Operand)
    (ho : o.op = .call { callee := .builtin .append, args := #[s, x], argTypes := #[40, 40] }) (hs : a.eval s = .slice none 0 0) (hx : a.eval x = .slice a1 ns.length c1) (hR : Rd B w (.slice a1 ns.length c1) ns) (hl : ns.length * 4 ≤ 140737488355328)
    (h : ∀ x1 y1 w', Own w.heap.size w' (.slice x1 ns.length y1) ns → Below w.heap.size w w' → wpList Tryz.prog ops Q rest (a.put o.dst (.slice x1 ns.length y1)) w') : wpList Tryz.prog ops Q (o :: rest) a w := by
  obtain ⟨i0, hi, hz0, hz1, hz2⟩ := info_parts info_u32
  have hlim := hR.lim
  rcases rd_parts' hR with ⟨rfl, rfl, rfl⟩ | ⟨ad, rfl, hN⟩
  · exact wpList_append_own_none hgd s x 40 ho w.heap.size 120 i0 1 Tryz.underlying40 hi (.slice none 0 0) 0 [] hs (World.ownsRow_nil _ _ _ _) hx (h none 0 w ⟨lim_nil, World.ownsRow_nil _ _ _ _⟩ (Below.refl _ _))
  · refine wpList_append_own _ hgd s x 40 ho w.heap.size 120 i0 (.int .u32 0) 1 4 Tryz.underlying40 hi hz0 hz1 hz2 rfl (by decide) (.slice none 0 0) 0 [] hs (World.ownsRow_nil _ _ _ _) ad ns.length c1 (ns.map (Value.int .u32)) hx (by rw [List.length_map]; omega) hN (ints_oneCell _ _) ?_ ?_ (Nat.le_refl _) ?_
    · unfold maxLen; omega
    · omega
    intro v' w2 hown hgrow _
    rw [Nat.zero_add, List.nil_append] at hown
    have o1 : Own w.heap.size w2 v' ns := ⟨hlim, hown⟩
    obtain ⟨x1, y1, rfl⟩ := o1.form
    exact h x1 y1 w2 o1 ((Below.refl _ _).grown hgrow (Nat.le_refl _) (fun k h => by cases h))

set_option maxRecDepth 100000 in
set_option maxHeartbeats 1600000 in
theorem copyLimbs_any {w : World} {a1 : Option Addr} {c1 : Nat} {ns : List Int} (h1 : Rd w.heap.size w (.slice a1 ns.length c1) ns) (l1 : ns.length * 4 ≤ 140737488355328) :
    Calls Tryz.prog 103 #[.slice a1 ns.length c1] w fun e w' => ∃ x1 y1, e = .returned (.slice x1 ns.length y1) ∧ Own w.heap.size w' (.slice x1 ns.length y1) ns ∧ Below w.heap.size w w' := by
  go_enter Tryz.func103, Tryz.ntmps103
  go_wp2_with (at_builtin; refine append_nil_list rfl _ _ rfl rfl rfl h1 l1 ?_)
  intro x1 y1 w2 o1 k1
  go_wp2
  go_ret
  exact ⟨x1, y1, rfl, o1, k1⟩
end Go.Proofs.YthfmicokddcglaaGreatDoor

/- Arrays in memory, to any depth: what lies in the blocks that D tells. -/
namespace Go.Proofs.YthfmicokddcglaaGreatDoor
set_option linter.unusedVariables false
set_option linter.unusedSimpArgs false
open Go.RowKit

/-- An item: its kind, sign, limbs of both, character, boxes. An array: its lengths stand in ns, its items in kids. -/
inductive Tr where
  | mk (k : Int) (b : Bool) (ns ds : List Int) (c : Int) (kids : List Tr) : Tr
def Tr.k : Tr → Int | .mk k _ _ _ _ _ => k
def Tr.b : Tr → Bool | .mk _ b _ _ _ _ => b
def Tr.ns : Tr → List Int | .mk _ _ ns _ _ _ => ns
def Tr.ds : Tr → List Int | .mk _ _ _ ds _ _ => ds
def Tr.c : Tr → Int | .mk _ _ _ _ c _ => c
def Tr.kids : Tr → List Tr | .mk _ _ _ _ _ l => l
def tr0 : Tr := .mk 0 false [] [] 0 []
def arrT (sh : List Int) (its : List Tr) : Tr := .mk 0 false sh [] 0 its
def numT (b : Bool) (ns ds : List Int) : Tr := .mk 1 b ns ds 0 []
def charT (c : Int) : Tr := .mk 2 false [] [] c []
def boxT (a : Tr) : Tr := .mk 3 false [] [] 0 [a]

/-- The blocks that D tells are the same. -/
def Agree (D : Nat → Prop) (w w' : World) : Prop := ∀ g, D g → w'.heap[g]? = w.heap[g]?
theorem Agree.cell {D : Nat → Prop} {w w' : World} (h : Agree D w w') {g o : Nat} (hg : D g) : w'.cell? ⟨g, o, none⟩ = w.cell? ⟨g, o, none⟩ := World.cell?_of_block (w := w) (h g hg)
theorem Agree.of {D : Nat → Prop} {B : Nat} {w w' : World} (h : Below B w w') (hD : ∀ g, D g → g < B) : Agree D w w' := fun g hg => h.block g (hD g hg)
/-- A slice of limbs. -/
def RdL (D : Nat → Prop) (w : World) (v : Value) (xs : List Int) : Prop :=
  lim xs ∧ ∃ a cap, v = .slice a xs.length cap ∧ xs.length ≤ cap ∧ cap ≤ 9223372036854775807 ∧ (a = none → cap = 0) ∧
    (xs.length = 0 ∨ ∃ b off, a = some ⟨b, off, none⟩ ∧ D b ∧ ∀ j, j < xs.length → w.cell? ⟨b, off + j, none⟩ = some (.int .u32 (xs.getD j 0)))
theorem RdL.imp {D D' : Nat → Prop} {w w' : World} {v : Value} {xs : List Int} (h : RdL D w v xs) (hD : ∀ g, D g → D' g) (hb : Agree D w w') : RdL D' w' v xs := by
  obtain ⟨h0, a, cap, rfl, h1, h2, h3, h4⟩ := h
  refine ⟨h0, a, cap, rfl, h1, h2, h3, ?_⟩
  rcases h4 with h4 | ⟨b, off, rfl, hlt, hc⟩
  · exact Or.inl h4
  · exact Or.inr ⟨b, off, rfl, hD b hlt, fun j hj => (hb.cell hlt).trans (hc j hj)⟩
theorem RdL.rd {D : Nat → Prop} {B : Nat} {w : World} {v : Value} {xs : List Int} (h : RdL D w v xs) (hD : ∀ g, D g → g < B) : Rd B w v xs := by
  obtain ⟨h0, a, cap, rfl, h1, h2, h3, h4⟩ := h
  refine ⟨h0, a, cap, rfl, h1, h2, h3, ?_⟩
  rcases h4 with h4 | ⟨b, off, rfl, hlt, hc⟩
  · exact Or.inl h4
  · exact Or.inr ⟨b, off, rfl, hD b hlt, hc⟩
theorem RdL.of_rd {B : Nat} {w : World} {v : Value} {xs : List Int} (h : Rd B w v xs) : RdL (· < B) w v xs := h
theorem RdL.of_own {base : Nat} {w : World} {v : Value} {xs : List Int} (h : Own base w v xs) : RdL (fun g => base ≤ g ∧ g < w.heap.size) w v xs := by
  obtain ⟨h0, hl, h | ⟨g, cap, cur, rfl, hg, hh, h1, h2, h3, h4⟩⟩ := h
  · obtain ⟨rfl, hz⟩ := h
    have : xs = [] := List.eq_nil_of_length_eq_zero hz
    subst this
    exact ⟨h0, none, 0, rfl, Nat.le_refl _, by omega, fun _ => rfl, Or.inl rfl⟩
  · refine ⟨h0, _, cap, rfl, h1, by unfold maxLen at h2; omega, (fun h => by cases h), Or.inr ⟨g, 0, rfl, ⟨hg, (Array.getElem?_eq_some_iff.1 hh).1⟩, fun j hj => ?_⟩⟩
    have e : cur.toList[j]? = (xs.map (Value.int .u32))[j]? := by rw [← h4, List.getElem?_take]; simp; omega
    rw [getD_map_u32 xs j hj] at e
    simp only [World.cell?, hh, Nat.zero_add]
    simpa using e
/-- A slice of ints. -/
def RdN (D : Nat → Prop) (w : World) (v : Value) (xs : List Int) : Prop :=
  (∀ x ∈ xs, -9223372036854775808 ≤ x ∧ x ≤ 9223372036854775807) ∧ ∃ a cap, v = .slice a xs.length cap ∧ xs.length ≤ cap ∧ cap ≤ 9223372036854775807 ∧ (a = none → cap = 0) ∧
    (xs.length = 0 ∨ ∃ b off, a = some ⟨b, off, none⟩ ∧ D b ∧ ∀ j, j < xs.length → w.cell? ⟨b, off + j, none⟩ = some (.int .i64 (xs.getD j 0)))
theorem RdN.imp {D D' : Nat → Prop} {w w' : World} {v : Value} {xs : List Int} (h : RdN D w v xs) (hD : ∀ g, D g → D' g) (hb : Agree D w w') : RdN D' w' v xs := by
  obtain ⟨h0, a, cap, rfl, h1, h2, h3, h4⟩ := h
  refine ⟨h0, a, cap, rfl, h1, h2, h3, ?_⟩
  rcases h4 with h4 | ⟨b, off, rfl, hlt, hc⟩
  · exact Or.inl h4
  · exact Or.inr ⟨b, off, rfl, hD b hlt, fun j hj => (hb.cell hlt).trans (hc j hj)⟩
/-- A slice of n things: what is so of each, by its block, the slice's place in it, and its number. -/
def RowB (D : Nat → Prop) (n : Nat) (v : Value) (C : Nat → Nat → Nat → Prop) : Prop :=
  ∃ a cap, v = .slice a n cap ∧ n ≤ cap ∧ cap ≤ 9223372036854775807 ∧ (a = none → cap = 0) ∧ (n = 0 ∨ ∃ g o, a = some ⟨g, o, none⟩ ∧ D g ∧ ∀ j, j < n → C g o j)
theorem RowB.imp {D D' : Nat → Prop} {n : Nat} {v : Value} {C C' : Nat → Nat → Nat → Prop} (h : RowB D n v C) (hD : ∀ g, D g → D' g) (hC : ∀ g o j, D g → j < n → C g o j → C' g o j) : RowB D' n v C' := by
  obtain ⟨a, cap, rfl, h1, h2, h3, h4⟩ := h
  refine ⟨a, cap, rfl, h1, h2, h3, ?_⟩
  rcases h4 with h4 | ⟨g, o, rfl, hlt, hc⟩
  · exact Or.inl h4
  · exact Or.inr ⟨g, o, rfl, hD g hlt, fun j hj => hC g o j hlt hj (hc j hj)⟩
/-- What an item's slices are. -/
structure ItV (P : Value → Value → Tr → Prop) (D : Nat → Prop) (w : World) (a1 : Option Addr) (c1 : Nat) (a2 : Option Addr) (c2 : Nat) (a3 : Option Addr) (c3 : Nat) (t : Tr) : Prop where
  rn : RdL D w (.slice a1 t.ns.length c1) t.ns
  rd : RdL D w (.slice a2 t.ds.length c2) t.ds
  bx : RowB D t.kids.length (.slice a3 t.kids.length c3) (fun g o j => ∃ x1 n1 y1 x2 n2 y2, w.cell? ⟨g, o + j * 2, none⟩ = some (.slice x1 n1 y1) ∧ w.cell? ⟨g, o + j * 2 + 1, none⟩ = some (.slice x2 n2 y2) ∧ P (.slice x1 n1 y1) (.slice x2 n2 y2) (t.kids.getD j tr0))
/-- An item's cells. -/
def ItC (P : Value → Value → Tr → Prop) (D : Nat → Prop) (w : World) (g o : Nat) (t : Tr) : Prop :=
  ∃ a1 c1 a2 c2 a3 c3, (w.cell? ⟨g, o, none⟩ = some (.int .u8 t.k) ∧ w.cell? ⟨g, o + 1, none⟩ = some (.bool t.b) ∧ w.cell? ⟨g, o + 2, none⟩ = some (.slice a1 t.ns.length c1) ∧ w.cell? ⟨g, o + 3, none⟩ = some (.slice a2 t.ds.length c2) ∧ w.cell? ⟨g, o + 4, none⟩ = some (.int .i32 t.c) ∧ w.cell? ⟨g, o + 5, none⟩ = some (.slice a3 t.kids.length c3)) ∧ ItV P D w a1 c1 a2 c2 a3 c3 t
/-- An array's two slices, so many levels deep at most. -/
def ArV : Nat → (Nat → Prop) → World → Value → Value → Tr → Prop
  | 0, _, _, _, _, _ => False
  | f + 1, D, w, v1, v2, t => RdN D w v1 t.ns ∧ RowB D t.kids.length v2 (fun g o j => ItC (ArV f D w) D w g (o + j * 6) (t.kids.getD j tr0))
theorem ItV.imp {P P' : Value → Value → Tr → Prop} {D D' : Nat → Prop} {w w' : World} {a1 a2 a3 : Option Addr} {c1 c2 c3 : Nat} {t : Tr} (h : ItV P D w a1 c1 a2 c2 a3 c3 t) (hD : ∀ g, D g → D' g) (hb : Agree D w w') (hP : ∀ v1 v2 t, P v1 v2 t → P' v1 v2 t) : ItV P' D' w' a1 c1 a2 c2 a3 c3 t :=
  ⟨h.rn.imp hD hb, h.rd.imp hD hb, h.bx.imp hD (fun g o j hg hj ⟨x1, n1, y1, x2, n2, y2, e1, e2, e3⟩ => ⟨x1, n1, y1, x2, n2, y2, (hb.cell hg).trans e1, (hb.cell hg).trans e2, hP _ _ _ e3⟩)⟩
theorem ItC.imp {P P' : Value → Value → Tr → Prop} {D D' : Nat → Prop} {w w' : World} {g o : Nat} {t : Tr} (h : ItC P D w g o t) (hg : D g) (hD : ∀ g, D g → D' g) (hb : Agree D w w') (hP : ∀ v1 v2 t, P v1 v2 t → P' v1 v2 t) : ItC P' D' w' g o t := by
  obtain ⟨a1, c1, a2, c2, a3, c3, ⟨e0, e1, e2, e3, e4, e5⟩, hv⟩ := h
  exact ⟨a1, c1, a2, c2, a3, c3, ⟨(hb.cell hg).trans e0, (hb.cell hg).trans e1, (hb.cell hg).trans e2, (hb.cell hg).trans e3, (hb.cell hg).trans e4, (hb.cell hg).trans e5⟩, hv.imp hD hb hP⟩
theorem ArV.imp {D D' : Nat → Prop} {w w' : World} (hD : ∀ g, D g → D' g) (hb : Agree D w w') : ∀ (f f' : Nat) (v1 v2 : Value) (t : Tr), f ≤ f' → ArV f D w v1 v2 t → ArV f' D' w' v1 v2 t
  | 0, _, _, _, _, _, h => h.elim
  | f + 1, 0, _, _, _, hf, h => by omega
  | f + 1, f' + 1, v1, v2, t, hf, h => ⟨h.1.imp hD hb, h.2.imp hD (fun g o j hg hj hc => hc.imp hg hD hb (fun u1 u2 s hs => ArV.imp hD hb f f' u1 u2 s (by omega) hs))⟩
theorem ArV.agree {D : Nat → Prop} {f : Nat} {w w' : World} {v1 v2 : Value} {t : Tr} (h : ArV f D w v1 v2 t) (hb : Agree D w w') : ArV f D w' v1 v2 t := ArV.imp (fun _ h => h) hb f f v1 v2 t (Nat.le_refl _) h
theorem ArV.mono {D D' : Nat → Prop} {f : Nat} {w : World} {v1 v2 : Value} {t : Tr} (h : ArV f D w v1 v2 t) (hD : ∀ g, D g → D' g) : ArV f D' w v1 v2 t := ArV.imp hD (fun _ _ => rfl) f f v1 v2 t (Nat.le_refl _) h
theorem ArV.up {D : Nat → Prop} {f f' : Nat} {w : World} {v1 v2 : Value} {t : Tr} (h : ArV f D w v1 v2 t) (hf : f ≤ f') : ArV f' D w v1 v2 t := ArV.imp (fun _ h => h) (fun _ _ => rfl) f f' v1 v2 t hf h
theorem ItV.agree {D : Nat → Prop} {f : Nat} {w w' : World} {a1 a2 a3 : Option Addr} {c1 c2 c3 : Nat} {t : Tr} (h : ItV (ArV f D w) D w a1 c1 a2 c2 a3 c3 t) (hb : Agree D w w') : ItV (ArV f D w') D w' a1 c1 a2 c2 a3 c3 t := h.imp (fun _ h => h) hb (fun _ _ _ h => h.agree hb)
theorem RowB.len {D : Nat → Prop} {n m : Nat} {a : Option Addr} {c : Nat} {C : Nat → Nat → Nat → Prop} (h : RowB D n (.slice a m c) C) : m = n := by
  obtain ⟨a', c', e, _⟩ := h
  cases e; rfl
theorem RdN.len {D : Nat → Prop} {m : Nat} {w : World} {a : Option Addr} {c : Nat} {xs : List Int} (h : RdN D w (.slice a m c) xs) : m = xs.length := by
  obtain ⟨_, a', c', e, _⟩ := h
  cases e; rfl
theorem RowB.bounds {D : Nat → Prop} {n : Nat} {a : Option Addr} {c : Nat} {C : Nat → Nat → Nat → Prop} (h : RowB D n (.slice a n c) C) : n ≤ c ∧ c ≤ 9223372036854775807 := by
  obtain ⟨a', c', e, h1, h2, _⟩ := h
  cases e; exact ⟨h1, h2⟩
theorem RowB.ptr {D : Nat → Prop} {n : Nat} {a : Option Addr} {c : Nat} {C : Nat → Nat → Nat → Prop} (h : RowB D n (.slice a n c) C) (h0 : 0 < n) : ∃ g o, a = some ⟨g, o, none⟩ ∧ D g ∧ ∀ j, j < n → C g o j := by
  obtain ⟨a', c', e, _, _, _, h4⟩ := h
  cases e
  rcases h4 with h4 | h4
  · omega
  · exact h4
theorem RdN.bounds {D : Nat → Prop} {w : World} {a : Option Addr} {c : Nat} {xs : List Int} (h : RdN D w (.slice a xs.length c) xs) : xs.length ≤ c ∧ c ≤ 9223372036854775807 := by
  obtain ⟨_, a', c', e, h1, h2, _⟩ := h
  obtain ⟨rfl, _, rfl⟩ := Value.slice.inj e
  exact ⟨h1, h2⟩
theorem RdN.ptr {D : Nat → Prop} {w : World} {a : Option Addr} {c : Nat} {xs : List Int} (h : RdN D w (.slice a xs.length c) xs) (h0 : 0 < xs.length) : ∃ g o, a = some ⟨g, o, none⟩ ∧ D g ∧ ∀ j, j < xs.length → w.cell? ⟨g, o + j, none⟩ = some (.int .i64 (xs.getD j 0)) := by
  obtain ⟨_, a', c', e, _, _, _, h4⟩ := h
  obtain ⟨rfl, _, rfl⟩ := Value.slice.inj e
  rcases h4 with h4 | h4
  · omega
  · exact h4
theorem RdN.form {D : Nat → Prop} {w : World} {v : Value} {xs : List Int} (h : RdN D w v xs) : ∃ a c, v = .slice a xs.length c := by
  obtain ⟨_, a', c', e, _⟩ := h
  exact ⟨a', c', e⟩
theorem RowB.form {D : Nat → Prop} {n : Nat} {v : Value} {C : Nat → Nat → Nat → Prop} (h : RowB D n v C) : ∃ a c, v = .slice a n c := by
  obtain ⟨a', c', e, _⟩ := h
  exact ⟨a', c', e⟩
end Go.Proofs.YthfmicokddcglaaGreatDoor

/- array.Size: how many items a shape has. -/
namespace Go.Proofs.YthfmicokddcglaaGreatDoor
set_option linter.unusedVariables false
set_option linter.unusedSimpArgs false
open Go.RowKit

/-- The product of lengths, if it is at most 4096 all the way. -/
def prodF : List Int → Int → Option Int
  | [], s => some s
  | n :: r, s => if 4096 < s * n then none else prodF r (s * n)
def loF (sh : List Int) : Int := sh.foldl min 1
def hiF (sh : List Int) : Int := sh.foldl max 1
/-- How many items a shape has, and its error. -/
def sizeF (sh : List Int) : Int × Int :=
  if 8 < sh.length then (0, 4) else if loF sh < 0 then (0, 3) else if 4096 < hiF sh then (0, 8) else if loF sh = 0 then (0, 0)
  else match prodF sh 1 with | some n => (n, 0) | none => (0, 8)
theorem foldl_lo : ∀ (l : List Int) (a : Int), l.foldl min a ≤ a ∧ ∀ x ∈ l, l.foldl min a ≤ x
  | [], a => ⟨by simp, fun x h => by cases h⟩
  | y :: l, a => by
    have h := foldl_lo l (min a y)
    rw [List.foldl_cons]
    refine ⟨by omega, fun x hx => ?_⟩
    rcases List.mem_cons.1 hx with rfl | hx
    · omega
    · exact h.2 x hx
theorem foldl_hi : ∀ (l : List Int) (a : Int), a ≤ l.foldl max a ∧ ∀ x ∈ l, x ≤ l.foldl max a
  | [], a => ⟨by simp, fun x h => by cases h⟩
  | y :: l, a => by
    have h := foldl_hi l (max a y)
    rw [List.foldl_cons]
    refine ⟨by omega, fun x hx => ?_⟩
    rcases List.mem_cons.1 hx with rfl | hx
    · omega
    · exact h.2 x hx
theorem foldl_lo_in : ∀ (l : List Int) (a : Int), -9223372036854775808 ≤ a → (∀ x ∈ l, -9223372036854775808 ≤ x) → -9223372036854775808 ≤ l.foldl min a
  | [], a, h, _ => h
  | y :: l, a, h, hl => by
    rw [List.foldl_cons]
    have := hl y (by simp)
    exact foldl_lo_in l _ (by omega) (fun x hx => hl x (by simp [hx]))
theorem foldl_hi_in : ∀ (l : List Int) (a : Int), a ≤ 9223372036854775807 → (∀ x ∈ l, x ≤ 9223372036854775807) → l.foldl max a ≤ 9223372036854775807
  | [], a, h, _ => h
  | y :: l, a, h, hl => by
    rw [List.foldl_cons]
    have := hl y (by simp)
    exact foldl_hi_in l _ (by omega) (fun x hx => hl x (by simp [hx]))
theorem take_fold {f : Int → Int → Int} {l : List Int} {i : Nat} (h : i < l.length) (a : Int) : (l.take (i + 1)).foldl f a = f ((l.take i).foldl f a) (l.getD i 0) := by
  rw [← List.take_append_getElem h, List.foldl_append]
  simp [List.getD, h]
theorem mulLen {s n : Int} (h1 : 1 ≤ s) (h2 : s ≤ 4096) (h3 : 1 ≤ n) (h4 : n ≤ 4096) : 1 ≤ s * n ∧ s * n ≤ 16777216 := by
  have a1 : s * n ≤ 4096 * n := Int.mul_le_mul_of_nonneg_right h2 (by omega)
  have a2 : 1 * n ≤ s * n := Int.mul_le_mul_of_nonneg_right h1 (by omega)
  omega
theorem prodF_in : ∀ (l : List Int) (s n : Int), 1 ≤ s → s ≤ 4096 → (∀ x ∈ l, 1 ≤ x ∧ x ≤ 4096) → prodF l s = some n → 1 ≤ n ∧ n ≤ 4096
  | [], s, n, h1, h2, _, h => by rw [prodF] at h; cases h; exact ⟨h1, h2⟩
  | x :: l, s, n, h1, h2, hl, h => by
    rw [prodF] at h
    have hx := hl x (by simp)
    have hb := mulLen h1 h2 hx.1 hx.2
    by_cases hc : 4096 < s * x
    · rw [if_pos hc] at h; cases h
    · rw [if_neg hc] at h
      exact prodF_in l _ n hb.1 (by omega) (fun y hy => hl y (by simp [hy])) h
theorem sizeF_in (sh : List Int) : 0 ≤ (sizeF sh).1 ∧ (sizeF sh).1 ≤ 4096 := by
  unfold sizeF
  split
  · exact ⟨by decide, by decide⟩
  split
  · exact ⟨by decide, by decide⟩
  split
  · exact ⟨by decide, by decide⟩
  split
  · exact ⟨by decide, by decide⟩
  · rename_i h1 h2 h3 h4
    have hlo := foldl_lo sh 1
    have hhi := foldl_hi sh 1
    cases hp : prodF sh 1 with
    | none => exact ⟨by decide, by decide⟩
    | some n =>
      have := prodF_in sh 1 n (by omega) (by omega) (fun x hx => by
        have a := hlo.2 x hx
        have b := hhi.2 x hx
        unfold loF at h2 h4
        unfold hiF at h3
        omega) hp
      exact ⟨by simp; omega, by simp; omega⟩
section
variable {D : Nat → Prop} {w : World} {a : Option Addr} {c : Nat} {sh : List Int}
end
end Go.Proofs.YthfmicokddcglaaGreatDoor
