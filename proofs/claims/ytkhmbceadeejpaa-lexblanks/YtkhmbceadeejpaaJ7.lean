/- A range over a function whose items are told together with what they are in memory: the iterator pays a fact on each item ahead of its round, and the body may use it. -/
import Derived.RangeFuncNested
import Derived.RangeFuncBound
import Derived.RangeFuncCalls
import Derived.RangeFuncLeaves
import Derived.RangeFuncBox
import Derived.Test.YtkhmbceadeejpaaProg
import Derived.Test.YtkhmbceadeejpaaJ1
import Derived.Test.YtkhmbceadeejpaaJ3
import Derived.Laws.AppendOwnNone
import Derived.Test.YtkhmbceadeejpaaJ6
import Derived.Deep.RegionHeld3
import Derived.Test.YtkhmbceadeejpaaJ4
import Derived.Laws.Cover4
import Derived.Deep.Cut
import Derived.Deep.CutRange
import Derived.WalkSmall
namespace Go.Proofs.Ytkhmbceadeejpaa
set_option linter.unusedVariables false
set_option linter.unusedSimpArgs false
open Go.RowKit

/-- An iterator's word: ahead of each item x it pays Gd (what has come, x, the world); each round goes on, keeps Kp, and leads from J at what has come to J at one more; at the end S holds of all items and the world. -/
def Pays {α : Type} (F : Fence) (n : Nat) (P : Program) (g : Nat) (lb : Array Value) (encs : α → Array Value) (Kp : World → World → Prop) (Gd : List α → α → World → Prop) (S : List α → World → Prop) (w : World) : Prop :=
  ∀ (l : Nat) (J : List α → World → Prop) (W : World), Below w.heap.size w W → AbidesFrom W.heap.size J →
    (∀ pre x W1, J pre W1 → Gd pre x W1 → YieldAt F (n - 1) P l (encs x) W1 fun e W' => e = .returned (.bool true) ∧ J (pre ++ [x]) W' ∧ Kp W1 W') →
    J [] W → CallsIn F n P g (#[.func (.yield l) #[] #[]] ++ lb) W fun e W' => (∃ v, e = .returned v) ∧ ∃ xs, S xs W' ∧ J xs W'

variable {F : Fence} {n : Nat} {P : Program} {w : World}

/-- The loop's two blocks: its record, ready, and the block for deferred calls ahead of it. -/
def Stands (L : Nat) (r : Loop) (W : World) : Prop := W.heap[L + 1]? = some (.loop r) ∧ W.heap[L]? = some (.deferred (some []))
theorem Stands.lt {L : Nat} {r : Loop} {W : World} (h : Stands L r W) : L + 1 < W.heap.size := (Array.getElem?_eq_some_iff.1 h.1).1
theorem Stands.keeps {L : Nat} {r : Loop} {W W' : World} (h : Stands L r W) (hk : KeepsFrom L W W') : Stands L r W' := ⟨hk.same _ _ (by omega) h.1 rfl, hk.same _ _ (Nat.le_refl _) h.2 rfl⟩
theorem Stands.put {L : Nat} {r : Loop} {W : World} (h : Stands L r W) (r' : Loop) : Stands L r' (W.putObj (L + 1) (.loop r')) := ⟨World.putObj_heap_same h.lt, (World.putObj_heap_other (by omega)).trans h.2⟩
theorem Stands.grown {L : Nat} {r : Loop} {W W' : World} {row : Option Nat} (h : Stands L r W) (hg : W.grownBy W' row) (hr : ∀ k, row = some k → ∃ o : Obj, W.heap[k]? = some o ∧ o.isWalk = true) : Stands L r W' :=
  ⟨(grownBy_keeps hg hr h.1 rfl).trans h.1, (grownBy_keeps hg hr h.2 rfl).trans h.2⟩

section
variable {α : Type} {g : Operand} {ps : Array Tmp} {assign body : Code} {Q : Exit → Act → World → Prop} {a : Act} {gf : Nat} {lb : Array Value} {encs : α → Array Value} {Kp : World → World → Prop} {Gd : List α → α → World → Prop} {S : List α → World → Prop} {w0 : World}

/-- One round of such a loop. -/
theorem round_pays {fn : FuncId} {r : Loop} (hfn : F.fn fn) (hr : r = { state := .ready, pending := none, fn, tmps := a.tmps, params := ps, assign, body, defers := w.heap.size })
    (hKt : ∀ {A B C : World}, Kp A B → Kp B C → Kp A C) (hKb : ∀ (W : World) (l : Nat) (o o' : Obj), w.heap.size ≤ l → W.heap[l]? = some o → o.isCells = false → o.isWalk = false → Kp W (W.putObj l o')) (hps : ∀ x, (encs x).size = ps.size)
    (I : List α → World → Prop) (hI : OwnFrom w.heap.size I) (Ax : List α → α → Act → World → Prop) (hAx : ∀ pre x a', OwnFrom w.heap.size (fun (_ : Unit) W => Ax pre x a' W))
    (hassign : ∀ (l : Nat) (pre : List α) (x : α) (W : World) (K : Act → World → Prop), I pre W → Gd pre x W → (∀ a' W', KeepsFrom w.heap.size W W' → Kp W W' → I pre W' → Ax pre x a' W' → K a' W') →
      assign.wpIn (F.inRound l) (n - 1 - 1) P (Exit.then K (fun _ _ _ => False)) { tmps := (ps.zip (encs x)).foldl (fun t (p, v) => t.setIfInBounds p v) a.tmps, defers := [] } W)
    (hbody : ∀ (l : Nat) (pre : List α) (x : α) (a' : Act) (W : World), I pre W → Ax pre x a' W → body.wpIn (F.inRound l) (n - 1 - 1) P (fun e _ W' => e = .normal ∧ KeepsFrom w.heap.size W W' ∧ Kp W W' ∧ I (pre ++ [x]) W') a' W)
    (pre : List α) (x : α) (W : World) (hi : I pre W) (hst : Stands w.heap.size r W) (hG : Gd pre x W) :
    YieldAt F (n - 1 - 1) P (w.heap.size + 1) (encs x) W fun e W' => e = .returned (.bool true) ∧ (I (pre ++ [x]) W' ∧ Stands w.heap.size r W') ∧ Kp W W' := by
  have hy := run_yield (P := P) (args := encs x) hst.1 (by rw [hr]; exact hps x)
  rw [hr] at hy
  refine ⟨fn, _, assign, body, hy, roundIn_of_wpIn hfn (hassign _ pre x W _ hi hG ?_)⟩
  intro a' Wa hka hkp hia hax
  have hs1 := hst.keeps hka
  refine ⟨_, run_beginRound hs1.1 (by rw [hr]), ?_⟩
  have hs2 := hs1.put { r with state := .busy }
  have hk2 : Kp Wa _ := hKb Wa (w.heap.size + 1) _ (.loop { r with state := .busy }) (by omega) hs1.1 rfl rfl
  refine wpIn_mono (hbody _ pre x a' _ (hI.putObj _ hia (by omega) hs1.1 rfl) ((hAx pre x a').putObj (s := ()) _ hax (by omega) hs1.1 rfl)) ?_
  rintro e a3 W3 ⟨rfl, hk3, hkp3, hi3⟩
  have hs3 := hs2.keeps hk3
  have he := run_endRound (P := P) none hs3.1
  have er : ({ r with state := .busy } : Loop) = { r with state := .busy } := rfl
  have e4 : ({ ({ r with state := .busy } : Loop) with state := if (none : Option Code).isNone then .ready else .done, pending := none } : Loop) = r := by rw [hr]; rfl
  rw [e4] at he
  exact ⟨_, _, he, rfl, ⟨hI.putObj _ hi3 (by omega) hs3.1 rfl, hs3.put r⟩, hKt hkp (hKt hk2 (hKt hkp3 (hKb W3 (w.heap.size + 1) _ _ (by omega) hs3.1 rfl rfl)))⟩

theorem wpIn_range_pays (hro : F.round = none) (h1 : 1 ≤ n) (hg : a.eval g = .func (.func gf) #[] lb) (hFg : F.fn gf) (eg : ∀ args w, (callFunc gf args).run P w = .ok (.enter gf args) w)
    (hseq : Pays F (n - 1) P gf lb encs Kp Gd S w0) (hKt : ∀ {A B C : World}, Kp A B → Kp B C → Kp A C) (hKb : ∀ (W : World) (l : Nat) (o o' : Obj), w.heap.size ≤ l → W.heap[l]? = some o → o.isCells = false → o.isWalk = false → Kp W (W.putObj l o')) (hb0 : Below w0.heap.size w0 w) (hps : ∀ x, (encs x).size = ps.size)
    (I : List α → World → Prop) (hI : OwnFrom w.heap.size I) (h0 : I [] w) (hS : OwnFrom w.heap.size S) (Ax : List α → α → Act → World → Prop) (hAx : ∀ pre x a', OwnFrom w.heap.size (fun (_ : Unit) W => Ax pre x a' W))
    (hassign : ∀ (l : Nat) (pre : List α) (x : α) (W : World) (K : Act → World → Prop), I pre W → Gd pre x W → (∀ a' W', KeepsFrom w.heap.size W W' → Kp W W' → I pre W' → Ax pre x a' W' → K a' W') →
      assign.wpIn (F.inRound l) (n - 1 - 1) P (Exit.then K (fun _ _ _ => False)) { tmps := (ps.zip (encs x)).foldl (fun t (p, v) => t.setIfInBounds p v) a.tmps, defers := [] } W)
    (hbody : ∀ (l : Nat) (pre : List α) (x : α) (a' : Act) (W : World), I pre W → Ax pre x a' W → body.wpIn (F.inRound l) (n - 1 - 1) P (fun e _ W' => e = .normal ∧ KeepsFrom w.heap.size W W' ∧ Kp W W' ∧ I (pre ++ [x]) W') a' W)
    (hdone : ∀ (D : Nat) (xs : List α) (W : World), w.heap.size ≤ D → S xs W → I xs W → W.heap[D]? = some (.deferred (some [])) → Q .normal { a with defers := { target := .collected D, args := #[] } :: a.defers } W) :
    (Code.rangeFunc g ps assign body).wpIn F n P Q a w := by
  refine wpIn_rangeFunc fun fn hfn => ?_
  obtain ⟨r, hr⟩ : ∃ r : Loop, r = { state := .ready, pending := none, fn, tmps := a.tmps, params := ps, assign, body, defers := w.heap.size } := ⟨_, rfl⟩
  have hs0 : Stands w.heap.size r ((w.alloc (.deferred (some []))).alloc (.loop r)) := by
    refine ⟨?_, (Below.heap_alloc _ _ _ (by simp)).trans (World.alloc_heap_new w _)⟩
    have := World.alloc_heap_new (w.alloc (.deferred (some []))) (.loop r)
    rwa [World.size_alloc] at this
  have hi0 : I [] ((w.alloc (.deferred (some []))).alloc (.loop r)) := hI.alloc _ (hI.alloc _ h0)
  have hb1 : Below w0.heap.size w0 ((w.alloc (.deferred (some []))).alloc (.loop r)) := hb0.trans ((((Below.refl _ w).alloc (Nat.le_refl _) _).alloc (by simp) _).mono hb0.size)
  have hz : w.heap.size ≤ ((w.alloc (.deferred (some []))).alloc (.loop r)).heap.size := by simp; omega
  have he : (Instr.enterLoop fn a.tmps ps assign body F.round).run P w = .ok (w.heap.size + 1, [{ target := .collected w.heap.size, args := #[] }]) ((w.alloc (.deferred (some []))).alloc (.loop r)) := by
    rw [hro, hr]; exact run_enterLoop_outer _ _ _ _ _
  generalize (w.alloc (.deferred (some []))).alloc (.loop r) = W1 at *
  refine ⟨w.heap.size + 1, _, W1, { target := .fn (.func gf) lb, args := #[.func (.yield (w.heap.size + 1)) #[] #[]] }, W1, gf, #[.func (.yield (w.heap.size + 1)) #[] #[]] ++ lb, W1, he, ?_, ?_, ?_, fun _ => h1, ?_⟩
  · simp only [resolve, hg]
    simp [go_sem]
  · intro f' hf'; simp [Target.leads] at hf'; subst hf'; exact hFg
  · simp [invoke, go_sem, eg]
  · have hwalk : ∀ {A : World} {row : Option Nat}, (∀ k, row = some k → W1.heap.size ≤ k ∧ ∃ o : Obj, A.heap[k]? = some o ∧ o.isWalk = true) → (∀ k, row = some k → w.heap.size ≤ k ∧ ∃ o : Obj, A.heap[k]? = some o ∧ o.isCells = false) :=
      fun h k e => by obtain ⟨hB, o, ho, hw⟩ := h k e; exact ⟨by omega, o, ho, Obj.not_cells_of_walk hw⟩
    refine (hseq (w.heap.size + 1) (fun pre W => I pre W ∧ Stands w.heap.size r W) W1 hb1 (fun s A B row hs hg' hrow => ⟨hI s A B row hs.1 hg' (hwalk hrow), hs.2.grown hg' (fun k e => (hrow k e).2)⟩)
      (fun pre x W hJ hG => round_pays (n := n) (P := P) (w := w) (a := a) (Kp := Kp) (Gd := Gd) hfn hr (fun h h' => hKt h h') hKb hps I hI Ax hAx hassign hbody pre x W hJ.1 hJ.2 hG) ⟨hi0, hs0⟩).mono ?_
    rintro e W2 ⟨⟨v, rfl⟩, xs, hxs, hi, hst⟩
    have hend := run_endLoop (P := P) hst.1 (by rw [hr]; simp)
    have hp : r.pending = none := by rw [hr]
    rw [hp] at hend
    exact ⟨none, _, hend, hdone _ xs _ (Nat.le_refl _) (hS.putObj _ hxs (by omega) hst.1 rfl) (hI.putObj _ hi (by omega) hst.1 rfl) ((World.putObj_heap_other (by omega)).trans hst.2)⟩
end
end Go.Proofs.Ytkhmbceadeejpaa

/- As RangeG, where the body may also leave the loop. -/
namespace Go.Proofs.Ytkhmbceadeejpaa
set_option linter.unusedVariables false
set_option linter.unusedSimpArgs false
open Go.RowKit

/-- An iterator's word, where a round may say 'no more': then Jx holds, and the iterator ends. -/
def PaysX {α : Type} (F : Fence) (n : Nat) (P : Program) (g : Nat) (lb : Array Value) (encs : α → Array Value) (Kp : World → World → Prop) (Gd : List α → α → World → Prop) (S : List α → World → Prop) (Sp : List α → Prop) (w : World) : Prop :=
  ∀ (l : Nat) (J Jx : List α → World → Prop) (W : World), Below w.heap.size w W → AbidesFrom W.heap.size J → AbidesFrom W.heap.size Jx →
    (∀ pre x W1, J pre W1 → Gd pre x W1 → YieldAt F (n - 1) P l (encs x) W1 fun e W' => (e = .returned (.bool true) ∧ J (pre ++ [x]) W' ∧ Kp W1 W') ∨ (e = .returned (.bool false) ∧ Jx (pre ++ [x]) W')) →
    J [] W → CallsIn F n P g (#[.func (.yield l) #[] #[]] ++ lb) W fun e W' => (∃ v, e = .returned v) ∧ ((∃ xs, S xs W' ∧ J xs W') ∨ (∃ xs, Sp xs ∧ Jx xs W'))

variable {F : Fence} {n : Nat} {P : Program} {w : World}
section
variable {α : Type} {g : Operand} {ps : Array Tmp} {assign body : Code} {Q : Exit → Act → World → Prop} {a : Act} {gf : Nat} {lb : Array Value} {encs : α → Array Value} {Kp : World → World → Prop} {Gd : List α → α → World → Prop} {S : List α → World → Prop} {Sp : List α → Prop} {w0 : World}

/-- How a round's end is told to the record. -/
theorem end_round {r : Loop} {L : Nat} {W3 : World} (hs : Stands L { r with state := .busy } W3) (hp : r.pending = none) (hst : r.state = .ready) (jump : Option Code) :
    (Instr.endRound (L + 1) jump).run P W3 = .ok (.bool jump.isNone) (W3.putObj (L + 1) (.loop { r with state := if jump.isNone then .ready else .done, pending := jump })) :=
  run_endRound (P := P) (r := { r with state := .busy }) jump hs.1

theorem round_paysX {fn : FuncId} {r : Loop} (hfn : F.fn fn) (hr : r = { state := .ready, pending := none, fn, tmps := a.tmps, params := ps, assign, body, defers := w.heap.size })
    (hKt : ∀ {A B C : World}, Kp A B → Kp B C → Kp A C) (hKb : ∀ (W : World) (l : Nat) (o o' : Obj), w.heap.size ≤ l → W.heap[l]? = some o → o.isCells = false → o.isWalk = false → Kp W (W.putObj l o')) (hps : ∀ x, (encs x).size = ps.size)
    (I : List α → World → Prop) (hI : OwnFrom w.heap.size I) (Ix : Code → List α → World → Prop) (hIx : ∀ c, OwnFrom w.heap.size (Ix c)) (Ax : List α → α → Act → World → Prop) (hAx : ∀ pre x a', OwnFrom w.heap.size (fun (_ : Unit) W => Ax pre x a' W))
    (hassign : ∀ (l : Nat) (pre : List α) (x : α) (W : World) (K : Act → World → Prop), I pre W → Gd pre x W → (∀ a' W', KeepsFrom w.heap.size W W' → Kp W W' → I pre W' → Ax pre x a' W' → K a' W') →
      assign.wpIn (F.inRound l) (n - 1 - 1) P (Exit.then K (fun _ _ _ => False)) { tmps := (ps.zip (encs x)).foldl (fun t (p, v) => t.setIfInBounds p v) a.tmps, defers := [] } W)
    (hbody : ∀ (l : Nat) (pre : List α) (x : α) (a' : Act) (W : World), I pre W → Ax pre x a' W → body.wpIn (F.inRound l) (n - 1 - 1) P (ownPostG w.heap.size Kp I Ix (pre ++ [x]) W) a' W)
    (pre : List α) (x : α) (W : World) (hi : I pre W) (hst : Stands w.heap.size r W) (hG : Gd pre x W) :
    YieldAt F (n - 1 - 1) P (w.heap.size + 1) (encs x) W fun e W' => (e = .returned (.bool true) ∧ (I (pre ++ [x]) W' ∧ Stands w.heap.size r W') ∧ Kp W W') ∨ (e = .returned (.bool false) ∧ ∃ c, Ix c (pre ++ [x]) W' ∧ Stands w.heap.size { r with state := .done, pending := some c } W') := by
  have hy := run_yield (P := P) (args := encs x) hst.1 (by rw [hr]; exact hps x)
  rw [hr] at hy
  refine ⟨fn, _, assign, body, hy, roundIn_of_wpIn hfn (hassign _ pre x W _ hi hG ?_)⟩
  intro a' Wa hka hkp hia hax
  have hs1 := hst.keeps hka
  refine ⟨_, run_beginRound hs1.1 (by rw [hr]), ?_⟩
  have hs2 := hs1.put { r with state := .busy }
  have hk2 : Kp Wa _ := hKb Wa (w.heap.size + 1) _ (.loop { r with state := .busy }) (by omega) hs1.1 rfl rfl
  refine wpIn_mono (hbody _ pre x a' _ (hI.putObj _ hia (by omega) hs1.1 rfl) ((hAx pre x a').putObj (s := ()) _ hax (by omega) hs1.1 rfl)) ?_
  have hrd : r.state = .ready ∧ r.pending = none := by rw [hr]; exact ⟨rfl, rfl⟩
  have leave : ∀ (c : Code) (W3 : World), KeepsFrom w.heap.size (Wa.putObj (w.heap.size + 1) (.loop { r with state := .busy })) W3 → Ix c (pre ++ [x]) W3 → ∃ v W4, (Instr.endRound (w.heap.size + 1) (some c)).run P W3 = .ok v W4 ∧
      ((Ending.returned v = .returned (.bool true) ∧ (I (pre ++ [x]) W4 ∧ Stands w.heap.size r W4) ∧ Kp W W4) ∨ (Ending.returned v = .returned (.bool false) ∧ ∃ c, Ix c (pre ++ [x]) W4 ∧ Stands w.heap.size { r with state := .done, pending := some c } W4)) := fun c W3 hk3 hi3 => by
    have hs3 := hs2.keeps hk3
    exact ⟨_, _, end_round hs3 hrd.2 hrd.1 (some c), Or.inr ⟨rfl, c, (hIx c).putObj _ hi3 (by omega) hs3.1 rfl, hs3.put _⟩⟩
  rintro e a3 W3 hp
  cases e with
  | normal =>
    obtain ⟨hk3, hkp3, hi3⟩ := hp
    have hs3 := hs2.keeps hk3
    have he := end_round (P := P) hs3 hrd.2 hrd.1 none
    have e4 : ({ r with state := if (none : Option Code).isNone then .ready else .done, pending := none } : Loop) = r := by rw [hr]; rfl
    rw [e4] at he
    exact ⟨_, _, he, Or.inl ⟨rfl, ⟨hI.putObj _ hi3 (by omega) hs3.1 rfl, hs3.put r⟩, hKt hkp (hKt hk2 (hKt hkp3 (hKb W3 (w.heap.size + 1) _ _ (by omega) hs3.1 rfl rfl)))⟩⟩
  | ret => exact leave .ret W3 hp.1 hp.2
  | exit id => exact leave (.exit id) W3 hp.1 hp.2
  | goto t => exact leave (.goto t) W3 hp.1 hp.2
  | panic ch => exact hp.elim
  | outgrown => exact hp.elim

theorem wpIn_range_paysX (hro : F.round = none) (h1 : 1 ≤ n) (hg : a.eval g = .func (.func gf) #[] lb) (hFg : F.fn gf) (eg : ∀ args w, (callFunc gf args).run P w = .ok (.enter gf args) w)
    (hseq : PaysX F (n - 1) P gf lb encs Kp Gd S Sp w0) (hKt : ∀ {A B C : World}, Kp A B → Kp B C → Kp A C) (hKb : ∀ (W : World) (l : Nat) (o o' : Obj), w.heap.size ≤ l → W.heap[l]? = some o → o.isCells = false → o.isWalk = false → Kp W (W.putObj l o')) (hb0 : Below w0.heap.size w0 w) (hps : ∀ x, (encs x).size = ps.size)
    (I : List α → World → Prop) (hI : OwnFrom w.heap.size I) (h0 : I [] w) (hS : OwnFrom w.heap.size S) (Ix : Code → List α → World → Prop) (hIx : ∀ c, OwnFrom w.heap.size (Ix c)) (Ax : List α → α → Act → World → Prop) (hAx : ∀ pre x a', OwnFrom w.heap.size (fun (_ : Unit) W => Ax pre x a' W))
    (hassign : ∀ (l : Nat) (pre : List α) (x : α) (W : World) (K : Act → World → Prop), I pre W → Gd pre x W → (∀ a' W', KeepsFrom w.heap.size W W' → Kp W W' → I pre W' → Ax pre x a' W' → K a' W') →
      assign.wpIn (F.inRound l) (n - 1 - 1) P (Exit.then K (fun _ _ _ => False)) { tmps := (ps.zip (encs x)).foldl (fun t (p, v) => t.setIfInBounds p v) a.tmps, defers := [] } W)
    (hbody : ∀ (l : Nat) (pre : List α) (x : α) (a' : Act) (W : World), I pre W → Ax pre x a' W → body.wpIn (F.inRound l) (n - 1 - 1) P (ownPostG w.heap.size Kp I Ix (pre ++ [x]) W) a' W)
    (hdone : ∀ (D : Nat) (xs : List α) (W : World), w.heap.size ≤ D → S xs W → I xs W → W.heap[D]? = some (.deferred (some [])) → Q .normal { a with defers := { target := .collected D, args := #[] } :: a.defers } W)
    (hstop : ∀ (D : Nat) (c : Code) (xs : List α) (W : World), w.heap.size ≤ D → Sp xs → Ix c xs W → W.heap[D]? = some (.deferred (some [])) → c.wpIn F n P Q { a with defers := { target := .collected D, args := #[] } :: a.defers } W) :
    (Code.rangeFunc g ps assign body).wpIn F n P Q a w := by
  refine wpIn_rangeFunc fun fn hfn => ?_
  obtain ⟨r, hr⟩ : ∃ r : Loop, r = { state := .ready, pending := none, fn, tmps := a.tmps, params := ps, assign, body, defers := w.heap.size } := ⟨_, rfl⟩
  have hs0 : Stands w.heap.size r ((w.alloc (.deferred (some []))).alloc (.loop r)) := by
    refine ⟨?_, (Below.heap_alloc _ _ _ (by simp)).trans (World.alloc_heap_new w _)⟩
    have := World.alloc_heap_new (w.alloc (.deferred (some []))) (.loop r)
    rwa [World.size_alloc] at this
  have hi0 : I [] ((w.alloc (.deferred (some []))).alloc (.loop r)) := hI.alloc _ (hI.alloc _ h0)
  have hb1 : Below w0.heap.size w0 ((w.alloc (.deferred (some []))).alloc (.loop r)) := hb0.trans ((((Below.refl _ w).alloc (Nat.le_refl _) _).alloc (by simp) _).mono hb0.size)
  have hz : w.heap.size ≤ ((w.alloc (.deferred (some []))).alloc (.loop r)).heap.size := by simp; omega
  have he : (Instr.enterLoop fn a.tmps ps assign body F.round).run P w = .ok (w.heap.size + 1, [{ target := .collected w.heap.size, args := #[] }]) ((w.alloc (.deferred (some []))).alloc (.loop r)) := by
    rw [hro, hr]; exact run_enterLoop_outer _ _ _ _ _
  generalize (w.alloc (.deferred (some []))).alloc (.loop r) = W1 at *
  refine ⟨w.heap.size + 1, _, W1, { target := .fn (.func gf) lb, args := #[.func (.yield (w.heap.size + 1)) #[] #[]] }, W1, gf, #[.func (.yield (w.heap.size + 1)) #[] #[]] ++ lb, W1, he, ?_, ?_, ?_, fun _ => h1, ?_⟩
  · simp only [resolve, hg]
    simp [go_sem]
  · intro f' hf'; simp [Target.leads] at hf'; subst hf'; exact hFg
  · simp [invoke, go_sem, eg]
  · have hwalk : ∀ {A : World} {row : Option Nat}, (∀ k, row = some k → W1.heap.size ≤ k ∧ ∃ o : Obj, A.heap[k]? = some o ∧ o.isWalk = true) → (∀ k, row = some k → w.heap.size ≤ k ∧ ∃ o : Obj, A.heap[k]? = some o ∧ o.isCells = false) :=
      fun h k e => by obtain ⟨hB, o, ho, hw⟩ := h k e; exact ⟨by omega, o, ho, Obj.not_cells_of_walk hw⟩
    refine (hseq (w.heap.size + 1) (fun pre W => I pre W ∧ Stands w.heap.size r W) (fun pre W => ∃ c, Ix c pre W ∧ Stands w.heap.size { r with state := .done, pending := some c } W) W1 hb1
      (fun s A B row hs hg' hrow => ⟨hI s A B row hs.1 hg' (hwalk hrow), hs.2.grown hg' (fun k e => (hrow k e).2)⟩)
      (fun s A B row hs hg' hrow => by obtain ⟨c, h1, h2⟩ := hs; exact ⟨c, hIx c s A B row h1 hg' (hwalk hrow), h2.grown hg' (fun k e => (hrow k e).2)⟩)
      (fun pre x W hJ hG => round_paysX (n := n) (P := P) (w := w) (a := a) (Kp := Kp) (Gd := Gd) hfn hr (fun h h' => hKt h h') hKb hps I hI Ix hIx Ax hAx hassign hbody pre x W hJ.1 hJ.2 hG) ⟨hi0, hs0⟩).mono ?_
    rintro e W2 ⟨⟨v, rfl⟩, ⟨xs, hxs, hi, hst⟩ | ⟨xs, hsp, c, hi, hst⟩⟩
    · have hend := run_endLoop (P := P) hst.1 (by rw [hr]; simp)
      have hp : r.pending = none := by rw [hr]
      rw [hp] at hend
      exact ⟨none, _, hend, hdone _ xs _ (Nat.le_refl _) (hS.putObj _ hxs (by omega) hst.1 rfl) (hI.putObj _ hi (by omega) hst.1 rfl) ((World.putObj_heap_other (by omega)).trans hst.2)⟩
    · have hend := run_endLoop (P := P) hst.1 (by simp)
      exact ⟨some c, _, hend, hstop _ c xs _ (Nat.le_refl _) hsp ((hIx c).putObj _ hi (by omega) hst.1 rfl) ((World.putObj_heap_other (by omega)).trans hst.2)⟩
end
end Go.Proofs.Ytkhmbceadeejpaa

/- lex: sorts of characters, and runs of them. -/
namespace Go.Proofs.Ytkhmbceadeejpaa
set_option linter.unusedVariables false
set_option linter.unusedSimpArgs false
open Go.RowKit

def bl (c : Int) : Bool := decide (c = 32) || decide (c = 9)
def dg (c : Int) : Bool := decide (48 ≤ c) && decide (c ≤ 57)
def inn (c : Int) : Bool := dg c || decide (c = 46) || decide (c = 114)
/-- v reads as the characters cs; its memory lies below block B. -/
def RdR (B : Nat) (w : World) (v : Value) (cs : List Int) : Prop :=
  ∃ a cap, v = .slice a cs.length cap ∧ cs.length ≤ cap ∧ cap ≤ 9223372036854775807 ∧
    (cs.length = 0 ∨ ∃ b off, a = some ⟨b, off, none⟩ ∧ b < B ∧ ∀ j, j < cs.length → w.cell? ⟨b, off + j, none⟩ = some (.int .i32 (cs.getD j 0)))
theorem RdR.below {B : Nat} {w w' : World} {v : Value} {cs : List Int} (h : RdR B w v cs) (hb : Below B w w') : RdR B w' v cs := by
  obtain ⟨a, cap, hv, h1, h2, h3⟩ := h
  refine ⟨a, cap, hv, h1, h2, ?_⟩
  rcases h3 with h3 | ⟨b, off, ha, hbB, hc⟩
  · exact Or.inl h3
  · exact Or.inr ⟨b, off, ha, hbB, fun j hj => (hb.cell (p := ⟨b, off + j, none⟩) hbB).trans (hc j hj)⟩
theorem RdR.mono {B B' : Nat} {w : World} {v : Value} {cs : List Int} (h : RdR B w v cs) (hB : B ≤ B') : RdR B' w v cs := by
  obtain ⟨a, cap, hv, h1, h2, h3⟩ := h
  refine ⟨a, cap, hv, h1, h2, ?_⟩
  rcases h3 with h3 | ⟨b, off, ha, hbB, hc⟩
  · exact Or.inl h3
  · exact Or.inr ⟨b, off, ha, by omega, hc⟩

set_option maxRecDepth 100000 in
theorem isBlank_any (c : Int) (w : World) : Calls Try.prog 21 #[.int .i32 c] w fun e w' => e = .returned (.bool (bl c)) ∧ w' = w := by
  unfold bl
  go_enter Try.func21, Try.ntmps21
  by_cases h1 : c = 32
  · subst h1
    go_wp2
    go_ret
    exact ⟨rfl, rfl⟩
  · have e1 : (c == 32) = false := by rw [beq_eq_false_iff_ne]; exact h1
    by_cases h2 : c = 9
    · subst h2
      go_wp2
      go_ret
      exact ⟨rfl, rfl⟩
    · have e2 : (c == 9) = false := by rw [beq_eq_false_iff_ne]; exact h2
      rw [decide_eq_false h1, decide_eq_false h2]
      go_wp2
      go_ret
      exact ⟨rfl, rfl⟩
set_option maxRecDepth 100000 in
theorem isDigit_any (c : Int) (w : World) : Calls Try.prog 22 #[.int .i32 c] w fun e w' => e = .returned (.bool (dg c)) ∧ w' = w := by
  unfold dg
  go_enter Try.func22, Try.ntmps22
  by_cases h1 : 48 ≤ c
  · by_cases h2 : c ≤ 57
    · rw [decide_eq_true h1, decide_eq_true h2]
      go_wp2
      go_ret
      exact ⟨by simp, rfl⟩
    · rw [decide_eq_true h1, decide_eq_false h2]
      go_wp2
      go_ret
      exact ⟨by simp, rfl⟩
  · rw [decide_eq_false h1]
    go_wp2
    go_ret
    exact ⟨by simp, rfl⟩
set_option maxRecDepth 100000 in
theorem inNumber_any (c : Int) (w : World) : Calls Try.prog 32 #[.int .i32 c] w fun e w' => e = .returned (.bool (inn c)) ∧ w' = w := by
  go_enter Try.func32, Try.ntmps32
  go_wp2_with fail
  refine (isDigit_any c _).mono ?_
  rintro e w' ⟨rfl, rfl⟩
  cases hd : dg c with
  | true =>
    have HV : Hid (inn c = true) := by unfold Hid inn; rw [hd]; rfl
    clear hd
    go_wp2
    go_ret
    exact ⟨by rw [HV.out]; rfl, rfl⟩
  | false =>
    by_cases h1 : c = 46
    · have HV : Hid (inn c = true) := by unfold Hid inn; rw [hd, decide_eq_true h1]; rfl
      have e1 : (c == 46) = true := by rw [beq_iff_eq]; exact h1
      clear hd h1
      go_wp2
      go_ret
      exact ⟨by rw [HV.out]; rfl, rfl⟩
    · have e1 : (c == 46) = false := by rw [beq_eq_false_iff_ne]; exact h1
      by_cases h2 : c = 114
      · have HV : Hid (inn c = true) := by unfold Hid inn; rw [hd, decide_eq_false h1, decide_eq_true h2]; rfl
        have e2 : (c == 114) = true := by rw [beq_iff_eq]; exact h2
        clear hd h1 h2
        go_wp2
        go_ret
        exact ⟨by rw [HV.out]; rfl, rfl⟩
      · have HV : Hid (inn c = false) := by unfold Hid inn; rw [hd, decide_eq_false h1, decide_eq_false h2]; rfl
        have e2 : (c == 114) = false := by rw [beq_eq_false_iff_ne]; exact h2
        clear hd h1 h2
        go_wp2
        go_ret
        exact ⟨by rw [HV.out]; rfl, rfl⟩

/-- Where a run that begins at i ends. -/
def runEnd (p : Int → Bool) (cs : List Int) (i : Nat) : Nat := i + ((cs.drop i).takeWhile p).length
theorem runEnd_is {p : Int → Bool} {cs : List Int} {i j : Nat} (hij : i ≤ j) (hj : j ≤ cs.length) (h : ∀ k, i ≤ k → k < j → p (cs.getD k 0) = true) (he : j = cs.length ∨ p (cs.getD j 0) = false) : runEnd p cs i = j := by
  unfold runEnd
  induction hd : j - i generalizing i with
  | zero =>
    obtain rfl : i = j := by omega
    rcases he with rfl | he
    · simp
    · by_cases hl : i < cs.length
      · rw [List.drop_eq_getElem_cons hl]
        have : cs.getD i 0 = cs[i] := by simp [List.getD, hl]
        rw [this] at he
        rw [List.takeWhile_cons, if_neg (by rw [he]; decide)]; rfl
      · rw [List.drop_eq_nil_of_le (by omega)]; simp
  | succ n ih =>
    have hl : i < cs.length := by omega
    have hp := h i (Nat.le_refl _) (by omega)
    have e : cs.getD i 0 = cs[i] := by simp [List.getD, hl]
    rw [e] at hp
    rw [List.drop_eq_getElem_cons hl, List.takeWhile_cons, if_pos hp, List.length_cons]
    have := ih (i := i + 1) (by omega) (fun k k1 k2 => h k (by omega) k2) (by omega)
    omega

set_option maxRecDepth 100000 in
set_option maxHeartbeats 1600000 in
theorem run_blank {B : Nat} {w : World} {v : Value} {cs : List Int} (h : RdR B w v cs) (i : Nat) (hi : i ≤ cs.length) :
    Calls Try.prog 20 #[v, .int .i64 i, .func (.func 21) #[] #[]] w fun e w' => e = .returned (.int .i64 ((runEnd bl cs i : Nat) : Int)) ∧ w' = w := by
  obtain ⟨a, cap, rfl, h1, h2, h3⟩ := h
  go_enter Try.func20, Try.ntmps20
  go_wp2
  go_loopw [1] (fun at' wr => ∃ j : Nat, at' = .int .i64 j ∧ i ≤ j ∧ j ≤ cs.length ∧ Hid (∀ k, i ≤ k → k < j → bl (cs.getD k 0) = true) ∧ wr = w) (fun at' _ => cs.length - (intOf at').toNat)
  case atStart => exact ⟨i, rfl, Nat.le_refl _, hi, (fun k k1 k2 => by omega), rfl⟩
  case round =>
    obtain ⟨j, rfl, hij, hj, HJ, rfl⟩ := hrel
    by_cases hlt : j < cs.length
    · rcases h3 with h3 | ⟨b, off, rfl, hb, hc⟩
      · omega
      have hcj := hc j hlt
      clear hc
      generalize hC : cs.getD j 0 = C at *
      cases hp : bl C with
      | true =>
        go_wp2_with fail
        refine (isBlank_any C _).mono ?_
        rintro e w' ⟨rfl, rfl⟩
        rw [hp]
        go_wp2
        go_roundw
        case rel =>
          refine ⟨j + 1, by go_num, by omega, by omega, ?_, by first | trivial | rfl⟩
          intro k k1 k2
          by_cases hk : k = j
          · rw [hk, hC]; exact hp
          · exact HJ.out k k1 (by omega)
        case measure => simp [intOf]; omega
      | false =>
        have HE : Hid (runEnd bl cs i = j) := runEnd_is hij hj HJ.out (Or.inr (by rw [hC]; exact hp))
        go_wp2_with fail
        refine (isBlank_any C _).mono ?_
        rintro e w' ⟨rfl, rfl⟩
        rw [hp]
        go_wp2
        go_ret
        exact ⟨by rw [HE.out]; rfl, by first | trivial | rfl⟩
    · have HE : Hid (runEnd bl cs i = j) := runEnd_is hij hj HJ.out (Or.inl (by omega))
      go_wp2
      go_ret
      exact ⟨by rw [HE.out]; rfl, by first | trivial | rfl⟩

set_option maxRecDepth 100000 in
set_option maxHeartbeats 1600000 in
theorem run_number {B : Nat} {w : World} {v : Value} {cs : List Int} (h : RdR B w v cs) (i : Nat) (hi : i ≤ cs.length) :
    Calls Try.prog 20 #[v, .int .i64 i, .func (.func 32) #[] #[]] w fun e w' => e = .returned (.int .i64 ((runEnd inn cs i : Nat) : Int)) ∧ w' = w := by
  obtain ⟨a, cap, rfl, h1, h2, h3⟩ := h
  go_enter Try.func20, Try.ntmps20
  go_wp2
  go_loopw [1] (fun at' wr => ∃ j : Nat, at' = .int .i64 j ∧ i ≤ j ∧ j ≤ cs.length ∧ Hid (∀ k, i ≤ k → k < j → inn (cs.getD k 0) = true) ∧ wr = w) (fun at' _ => cs.length - (intOf at').toNat)
  case atStart => exact ⟨i, rfl, Nat.le_refl _, hi, (fun k k1 k2 => by omega), rfl⟩
  case round =>
    obtain ⟨j, rfl, hij, hj, HJ, rfl⟩ := hrel
    by_cases hlt : j < cs.length
    · rcases h3 with h3 | ⟨b, off, rfl, hb, hc⟩
      · omega
      have hcj := hc j hlt
      clear hc
      generalize hC : cs.getD j 0 = C at *
      cases hp : inn C with
      | true =>
        go_wp2_with fail
        refine (inNumber_any C _).mono ?_
        rintro e w' ⟨rfl, rfl⟩
        rw [hp]
        go_wp2
        go_roundw
        case rel =>
          refine ⟨j + 1, by go_num, by omega, by omega, ?_, by first | trivial | rfl⟩
          intro k k1 k2
          by_cases hk : k = j
          · rw [hk, hC]; exact hp
          · exact HJ.out k k1 (by omega)
        case measure => simp [intOf]; omega
      | false =>
        have HE : Hid (runEnd inn cs i = j) := runEnd_is hij hj HJ.out (Or.inr (by rw [hC]; exact hp))
        go_wp2_with fail
        refine (inNumber_any C _).mono ?_
        rintro e w' ⟨rfl, rfl⟩
        rw [hp]
        go_wp2
        go_ret
        exact ⟨by rw [HE.out]; rfl, by first | trivial | rfl⟩
    · have HE : Hid (runEnd inn cs i = j) := runEnd_is hij hj HJ.out (Or.inl (by omega))
      go_wp2
      go_ret
      exact ⟨by rw [HE.out]; rfl, by first | trivial | rfl⟩
end Go.Proofs.Ytkhmbceadeejpaa

/- Items of numbers, and scalars of them. -/
namespace Go.Proofs.Ytkhmbceadeejpaa
set_option linter.unusedVariables false
set_option linter.unusedSimpArgs false
open Go.RowKit

/-- A block of cells. -/
def BoxA (w : World) (B ty : Nat) (xs : Array Value) : Prop := w.heap[B]? = some (.cells xs ty (0, 0))
section
variable {w w' : World} {B ty base : Nat} {xs : Array Value}
theorem boxA_new (w : World) (xs : Array Value) (ty : Nat) : BoxA (w.alloc (.cells xs ty)) w.heap.size ty xs := heap_alloc_new _ _
theorem BoxA.lt (h : BoxA w B ty xs) : B < w.heap.size := by
  unfold BoxA at h
  exact (Array.getElem?_eq_some_iff.1 h).1
theorem BoxA.below (h : BoxA w B ty xs) (hb : Below base w w') (hB : B < base) : BoxA w' B ty xs := by
  unfold BoxA at *
  rw [hb.block B hB]; exact h
theorem BoxA.cell (h : BoxA w B ty xs) (i : Nat) {v : Value} (hv : xs[i]? = some v) : w.cell? ⟨B, i, none⟩ = some v := by
  unfold BoxA at h
  simp [World.cell?, h, hv]
theorem BoxA.frozen (h : BoxA w B ty xs) (i : Nat) : w.frozen? ⟨B, i, none⟩ = false := by
  unfold BoxA at h
  simp [World.frozen?, h]
end
/-- The cells of a number as an item. -/
def numCells (b : Bool) (a1 : Option Addr) (n1 c1 : Nat) (a2 : Option Addr) (n2 c2 : Nat) : Array Value := #[.int .u8 1, .bool b, .slice a1 n1 c1, .slice a2 n2 c2, .int .i32 0, .slice none 0 0]
theorem BoxA.num {w : World} {B ty : Nat} {b : Bool} {a1 a2 : Option Addr} {n1 n2 c1 c2 : Nat} (h : BoxA w B ty #[.int .u8 1, .bool b, .slice a1 n1 c1, .slice a2 n2 c2, .int .i32 0, .slice none 0 0]) :
    w.cell? ⟨B, 0, none⟩ = some (.int .u8 1) ∧ w.cell? ⟨B, 1, none⟩ = some (.bool b) ∧ w.cell? ⟨B, 2, none⟩ = some (.slice a1 n1 c1) ∧ w.cell? ⟨B, 3, none⟩ = some (.slice a2 n2 c2) ∧ w.cell? ⟨B, 4, none⟩ = some (.int .i32 0) ∧ w.cell? ⟨B, 5, none⟩ = some (.slice none 0 0) :=
  ⟨h.cell 0 rfl, h.cell 1 rfl, h.cell 2 rfl, h.cell 3 rfl, h.cell 4 rfl, h.cell 5 rfl⟩

section
variable {w : World} {b : Bool} {a1 a2 : Option Addr} {n1 n2 c1 c2 : Nat}
set_option maxRecDepth 100000 in
set_option maxHeartbeats 1600000 in
theorem number_any :
    Calls Try.prog 50 #[.agg #[.bool b, .slice a1 n1 c1, .slice a2 n2 c2]] w fun e w' => e = .returned (.agg #[.int .u8 1, .bool b, .slice a1 n1 c1, .slice a2 n2 c2, .int .i32 0, .slice none 0 0]) ∧ Below w.heap.size w w' := by
  have hb := boxA_new (w.alloc (.cells #[.bool b, .slice a1 n1 c1, .slice a2 n2 c2] 49)) #[.int .u8 1, .bool b, .slice a1 n1 c1, .slice a2 n2 c2, .int .i32 0, .slice none 0 0] 52
  rw [World.size_alloc] at hb
  have g := ((Below.refl w.heap.size w).alloc (Nat.le_refl _) (.cells #[.bool b, .slice a1 n1 c1, .slice a2 n2 c2] 49)).alloc (by simp) (.cells #[.int .u8 1, .bool b, .slice a1 n1 c1, .slice a2 n2 c2, .int .i32 0, .slice none 0 0] 52)
  go_enter Try.func50, Try.ntmps50
  go_wp2
  obtain ⟨r0, r1, r2, r3, r4, r5⟩ := hb.num
  refine bodyPost_ret (v := .agg #[.int .u8 1, .bool b, .slice a1 n1 c1, .slice a2 n2 c2, .int .i32 0, .slice none 0 0]) (by simp [results, Try.results50, go_sem, r0, r1, r2, r3, r4, r5]) rfl ?_
  exact ⟨rfl, g⟩

/-- A scalar of a number: its one item lies in block k. -/
def scalarOf (k : Nat) : Value := .agg #[.slice none 0 0, .slice (some ⟨k, 0, none⟩) 1 1]

set_option maxRecDepth 100000 in
set_option maxHeartbeats 1600000 in
theorem scalar_any :
    Calls Try.prog 48 #[.agg #[.int .u8 1, .bool b, .slice a1 n1 c1, .slice a2 n2 c2, .int .i32 0, .slice none 0 0]] w fun e w' => ∃ k, e = .returned (.agg #[.slice none 0 0, .slice (some ⟨k, 0, none⟩) 1 1]) ∧ w.heap.size ≤ k ∧ BoxA w' k 52 #[.int .u8 1, .bool b, .slice a1 n1 c1, .slice a2 n2 c2, .int .i32 0, .slice none 0 0] ∧ Below w.heap.size w w' := by
  have g1 := (Below.refl w.heap.size w).alloc (Nat.le_refl _) (.cells #[.int .u8 1, .bool b, .slice a1 n1 c1, .slice a2 n2 c2, .int .i32 0, .slice none 0 0] 52)
  have g2 := g1.alloc (by simp) (.cells #[.slice none 0 0, .slice (some ⟨w.heap.size + 1 + 1, 0, none⟩) 1 1] 31)
  have g3 := g2.alloc (by simp; omega) (.cells #[.int .u8 1, .bool b, .slice a1 n1 c1, .slice a2 n2 c2, .int .i32 0, .slice none 0 0] 52)
  have hk := boxA_new ((w.alloc (.cells #[.int .u8 1, .bool b, .slice a1 n1 c1, .slice a2 n2 c2, .int .i32 0, .slice none 0 0] 52)).alloc (.cells #[.slice none 0 0, .slice (some ⟨w.heap.size + 1 + 1, 0, none⟩) 1 1] 31)) #[.int .u8 1, .bool b, .slice a1 n1 c1, .slice a2 n2 c2, .int .i32 0, .slice none 0 0] 52
  rw [World.size_alloc, World.size_alloc] at hk
  have hb := boxA_new (w.alloc (.cells #[.int .u8 1, .bool b, .slice a1 n1 c1, .slice a2 n2 c2, .int .i32 0, .slice none 0 0] 52)) #[.slice none 0 0, .slice (some ⟨w.heap.size + 1 + 1, 0, none⟩) 1 1] 31
  have hb2 := hb.below (below_alloc _ (.cells #[.int .u8 1, .bool b, .slice a1 n1 c1, .slice a2 n2 c2, .int .i32 0, .slice none 0 0] 52)) (by simp)
  rw [World.size_alloc] at hb2
  go_enter Try.func48, Try.ntmps48
  go_wp2
  have r0 := hb2.cell 0 rfl
  have r1 := hb2.cell 1 rfl
  refine bodyPost_ret (v := .agg #[.slice none 0 0, .slice (some ⟨w.heap.size + 1 + 1, 0, none⟩) 1 1]) (by simp [results, Try.results48, go_sem, r0, r1]) rfl ?_
  exact ⟨_, rfl, by omega, hk, g3⟩
end

section
variable {w w' : World} {B ty base : Nat} {u0 u1 u2 u3 u4 u5 : Value}
theorem BoxA.set6 (h : BoxA w B ty #[u0, u1, u2, u3, u4, u5]) (v0 v1 v2 v3 v4 v5 : Value) : BoxA ((((((w.setCell ⟨B, 0, none⟩ v0).setCell ⟨B, 1, none⟩ v1).setCell ⟨B, 2, none⟩ v2).setCell ⟨B, 3, none⟩ v3).setCell ⟨B, 4, none⟩ v4).setCell ⟨B, 5, none⟩ v5) B ty #[v0, v1, v2, v3, v4, v5] := by
  unfold BoxA at h ⊢
  simp [World.setCell, Array.getElem?_modify, h]
theorem Below.set6 (h : Below base w w') (hB : base ≤ B) (v0 v1 v2 v3 v4 v5 : Value) : Below base w ((((((w'.setCell ⟨B, 0, none⟩ v0).setCell ⟨B, 1, none⟩ v1).setCell ⟨B, 2, none⟩ v2).setCell ⟨B, 3, none⟩ v3).setCell ⟨B, 4, none⟩ v4).setCell ⟨B, 5, none⟩ v5) :=
  (((((h.setCell (p := ⟨B, 0, none⟩) hB _).setCell (p := ⟨B, 1, none⟩) hB _).setCell (p := ⟨B, 2, none⟩) hB _).setCell (p := ⟨B, 3, none⟩) hB _).setCell (p := ⟨B, 4, none⟩) hB _).setCell (p := ⟨B, 5, none⟩) hB _
theorem Own.set6 {v : Value} {xs : List Int} (h : Own base w v xs) (hB : B < base) (v0 v1 v2 v3 v4 v5 : Value) : Own base ((((((w.setCell ⟨B, 0, none⟩ v0).setCell ⟨B, 1, none⟩ v1).setCell ⟨B, 2, none⟩ v2).setCell ⟨B, 3, none⟩ v3).setCell ⟨B, 4, none⟩ v4).setCell ⟨B, 5, none⟩ v5) v xs := by
  have e : v.ownBlock ≠ some B := ownBlock_ne h hB
  exact (((((h.setCell (a := ⟨B, 0, none⟩) e _).setCell (a := ⟨B, 1, none⟩) e _).setCell (a := ⟨B, 2, none⟩) e _).setCell (a := ⟨B, 3, none⟩) e _).setCell (a := ⟨B, 4, none⟩) e _).setCell (a := ⟨B, 5, none⟩) e _
end

theorem rd_parts' {B : Nat} {w : World} {a : Option Addr} {c : Nat} {xs : List Int} (h : Rd B w (.slice a xs.length c) xs) : (a = none ∧ xs = [] ∧ c = 0) ∨ ∃ ad, a = some ad ∧ ∀ j u, (xs.map (Value.int .u32))[j]? = some u → w.cell? (ad.add j) = some u := by
  obtain ⟨_, a', c', e, h1, h2, h3, h4⟩ := h
  have ea : a' = a ∧ c' = c := by cases e; exact ⟨rfl, rfl⟩
  obtain ⟨rfl, rfl⟩ := ea
  cases a' with
  | none =>
    have := h3 rfl
    subst this
    exact Or.inl ⟨rfl, List.eq_nil_of_length_eq_zero (by omega), rfl⟩
  | some ad =>
    refine Or.inr ⟨ad, rfl, ?_⟩
    rcases h4 with h4 | ⟨b, off, e2, _, hc⟩
    · have : xs = [] := List.eq_nil_of_length_eq_zero h4
      subst this
      intro j u h; simp at h
    · cases e2
      exact cells_news hc
/-- Limbs that are appended to none: their copy. -/
theorem append_nil_list {B : Nat} {w : World} {ops : Array Oper} {rest : List Oper} {o : Oper} {a : Act} {Q : Exit → Act → World → Prop} {a1 : Option Addr} {c1 : Nat} {ns : List Int} (hgd : o.guard = none) (s x : Operand)
    (ho : o.op = .call { callee := .builtin .append, args := #[s, x], argTypes := #[47, 47] }) (hs : a.eval s = .slice none 0 0) (hx : a.eval x = .slice a1 ns.length c1) (hR : Rd B w (.slice a1 ns.length c1) ns) (hl : ns.length * 4 ≤ 140737488355328)
    (h : ∀ x1 y1 w', Own w.heap.size w' (.slice x1 ns.length y1) ns → Below w.heap.size w w' → wpList Try.prog ops Q rest (a.put o.dst (.slice x1 ns.length y1)) w') : wpList Try.prog ops Q (o :: rest) a w := by
  obtain ⟨i0, hi, hz0, hz1, hz2⟩ := info_parts info_u32
  have hlim := hR.lim
  rcases rd_parts' hR with ⟨rfl, rfl, rfl⟩ | ⟨ad, rfl, hN⟩
  · exact wpList_append_own_none hgd s x 47 ho w.heap.size 69 i0 1 Try.underlying47 hi (.slice none 0 0) 0 [] hs (World.ownsRow_nil _ _ _ _) hx (h none 0 w ⟨lim_nil, World.ownsRow_nil _ _ _ _⟩ (Below.refl _ _))
  · refine wpList_append_own _ hgd s x 47 ho w.heap.size 69 i0 (.int .u32 0) 1 4 Try.underlying47 hi hz0 hz1 hz2 rfl (by decide) (.slice none 0 0) 0 [] hs (World.ownsRow_nil _ _ _ _) ad ns.length c1 (ns.map (Value.int .u32)) hx (by rw [List.length_map]; omega) hN (ints_oneCell _ _) ?_ ?_ (Nat.le_refl _) ?_
    · unfold maxLen; omega
    · omega
    intro v' w2 hown hgrow _
    rw [Nat.zero_add, List.nil_append] at hown
    have o1 : Own w.heap.size w2 v' ns := ⟨hlim, hown⟩
    obtain ⟨x1, y1, rfl⟩ := o1.form
    exact h x1 y1 w2 o1 ((Below.refl _ _).grown hgrow (Nat.le_refl _) (fun k h => by cases h))

set_option maxRecDepth 100000 in
set_option maxHeartbeats 1600000 in
theorem copyLimbs_any {w : World} {a1 : Option Addr} {c1 : Nat} {ns : List Int} (h1 : Rd w.heap.size w (.slice a1 ns.length c1) ns) (l1 : ns.length * 4 ≤ 140737488355328) :
    Calls Try.prog 71 #[.slice a1 ns.length c1] w fun e w' => ∃ x1 y1, e = .returned (.slice x1 ns.length y1) ∧ Own w.heap.size w' (.slice x1 ns.length y1) ns ∧ Below w.heap.size w w' := by
  go_enter Try.func71, Try.ntmps71
  go_wp2_with (at_builtin; refine append_nil_list rfl _ _ rfl rfl rfl h1 l1 ?_)
  intro x1 y1 w2 o1 k1
  go_wp2
  go_ret
  exact ⟨x1, y1, rfl, o1, k1⟩
end Go.Proofs.Ytkhmbceadeejpaa

/- rat.wholeNextTo, rat.Floor: the whole numbers next to a number. -/
namespace Go.Proofs.Ytkhmbceadeejpaa
set_option linter.unusedVariables false
set_option linter.unusedSimpArgs false
open Go.RowKit

/-- A result's variable. -/
structure RVar (w : World) (k : Nat) : Prop where
  lt : k < w.heap.size
  box : Box3 w k 49 (.bool false) (.slice none 0 0) (.slice none 0 0)
theorem RVar.below {w w' : World} {k : Nat} (h : RVar w k) (hb : Below w.heap.size w w') : RVar w' k := ⟨Nat.lt_of_lt_of_le h.lt hb.size, h.box.below hb h.lt⟩
theorem rvar_new (w : World) : RVar (w.alloc (.cells #[.bool false, .slice none 0 0, .slice none 0 0] 49)) w.heap.size := ⟨by simp, box3_new _ _ _ _ _⟩

/-- The size of the whole number next to a number: further away from 0, or nearer. -/
def wholeM (f : Bool) (n d : Int) : Int := n / d + if f = true ∧ ¬ n % d = 0 then 1 else 0

theorem div_unique {n d q r : Int} (h : n = q * d + r) (h0 : 0 ≤ r) (h1 : r < d) : q = n / d ∧ r = n % d := by
  have hd : 0 < d := by omega
  have e1 : n / d = q := by
    rw [h, Int.add_comm, Int.add_mul_ediv_right _ _ (by omega), Int.ediv_eq_zero_of_lt h0 h1]
    omega
  refine ⟨e1.symm, ?_⟩
  have e2 := Int.emod_def n d
  rw [e1] at e2
  rw [e2, h, Int.mul_comm d]
  omega

theorem floor_whole (b : Bool) (n d : Int) (hn : 0 ≤ n) (hd : 0 < d) : sg b (wholeM b n d) = sg b n / d := by
  have hm0 := Int.emod_nonneg n (show d ≠ 0 by omega)
  have hm1 := Int.emod_lt_of_pos n hd
  have he : n / d * d + n % d = n := by rw [Int.mul_comm]; exact Int.mul_ediv_add_emod n d
  unfold wholeM sg
  cases b with
  | false => simp
  | true =>
    by_cases h0 : n % d = 0
    · simp only [h0, not_true_eq_false, and_false, if_false, if_true, Int.add_zero]
      exact (div_unique (r := 0) (by rw [Int.neg_mul]; omega) (by omega) hd).1
    · simp only [h0, not_false_eq_true, and_true, if_true]
      refine (div_unique (r := d - n % d) ?_ (by omega) (by omega)).1
      rw [Int.neg_mul, Int.add_mul]
      omega

theorem one_val : val [(1 : Int)] = 1 := by decide
theorem can_add_one {q r : List Int} (c : can r) : (0 < r.length ↔ ¬ val r = 0) := by
  have := can_zero c
  omega

section
variable {B : Nat} {w : World} {bx : Bool} {a1 a2 : Option Addr} {c1 c2 : Nat} {xn xd : List Int}

end
end Go.Proofs.Ytkhmbceadeejpaa

/- rat.OfInt at every int. -/
namespace Go.Proofs.Ytkhmbceadeejpaa
set_option linter.unusedVariables false
set_option linter.unusedSimpArgs false
open Go.RowKit

theorem of_can (n : Int) (h0 : 0 ≤ n) (h1 : n < 18446744073709551616) : can (tr [n % 4294967296, n / 4294967296]) ∧ val (tr [n % 4294967296, n / 4294967296]) = n ∧ (tr [n % 4294967296, n / 4294967296]).length ≤ 2 := by
  refine ⟨tr_can (fun x hx => by simp at hx; omega), ?_, ?_⟩
  · rw [val_tr]; simp [val]; omega
  · have := tr_length_le [n % 4294967296, n / 4294967296]
    simpa using this
theorem of_num (n : Int) (h0 : 0 ≤ n) (h1 : n < 18446744073709551616) (w : World) : Calls Try.prog 42 #[.int .u64 n] w fun e w' => ∃ ns, can ns ∧ Hid (val ns = n) ∧ ns.length ≤ 2 ∧ Makes w e w' ns := by
  refine (of_any n h0 h1 w).mono ?_
  intro e w' h
  have hc := of_can n h0 h1
  exact ⟨_, hc.1, hc.2.1, hc.2.2, h⟩

/-- A whole number as a number. -/
def WholeIs (k : Int) (b : Bool) (ns ds : List Int) : Prop := b = decide (k < 0) ∧ can ns ∧ val ns = (if k < 0 then -k else k) ∧ ns.length ≤ 2 ∧ ds = [1]
theorem WholeIs.right {k : Int} {b : Bool} {ns ds : List Int} (h : WholeIs k b ns ds) : RightP b ns ds := by
  obtain ⟨rfl, cn, vn, ln, rfl⟩ := h
  refine ⟨by omega, by simp, cn, can_one, ?_, by simp, by rw [one_val]; exact gI_one_right _⟩
  rintro ⟨hb, hz⟩
  rw [(can_zero cn).1 hz] at vn
  rw [decide_eq_true_iff] at hb
  rw [if_pos hb] at vn
  omega
theorem WholeIs.sg {k : Int} {b : Bool} {ns ds : List Int} (h : WholeIs k b ns ds) : sg b (val ns) = k ∧ val ds = 1 := by
  obtain ⟨rfl, cn, vn, ln, rfl⟩ := h
  refine ⟨?_, one_val⟩
  rw [vn]
  by_cases hk : k < 0
  · rw [decide_eq_true hk, if_pos hk]; simp [Go.Proofs.Ytkhmbceadeejpaa.sg]
  · rw [decide_eq_false hk, if_neg hk]; rfl
/-- A whole number's answer. -/
def WholeNum (w : World) (k : Int) (e : Ending) (w' : World) : Prop :=
  Below w.heap.size w w' ∧ ∃ b ns ds a1 c1 a2 c2, Hid (WholeIs k b ns ds) ∧ e = .returned (.agg #[.bool b, .slice a1 ns.length c1, .slice a2 ds.length c2]) ∧ Own w.heap.size w' (.slice a1 ns.length c1) ns ∧ Own w.heap.size w' (.slice a2 ds.length c2) ds

set_option maxRecDepth 100000 in
set_option maxHeartbeats 3200000 in
theorem ofInt_any (k : Int) (h0 : -9223372036854775808 ≤ k) (h1 : k < 9223372036854775808) (w : World) : Calls Try.prog 67 #[.int .i64 k] w fun e w' => WholeNum w k e w' := by
  have R := rvar_new w
  have g := below_alloc w (.cells #[.bool false, .slice none 0 0, .slice none 0 0] 49)
  go_enter Try.func67, Try.ntmps67
  by_cases hk : k < 0
  · have hkb : decide (k < 0) = true := decide_eq_true hk
    have hw : IntKind.u64.wrap (-IntKind.u64.wrap k) = -k := by rw [IntKind.wrap_u64, IntKind.wrap_u64]; omega
    go_wp2_with fail
    generalize hA : w.alloc (.cells #[.bool false, .slice none 0 0, .slice none 0 0] 49) = v at *
    clear hA
    refine (of_num (-k) (by omega) (by omega) _).mono ?_
    rintro e wa ⟨ns, cn, vn, ln, x1, y1, rfl, o1, ka⟩
    go_wp2_with fail
    refine (one_any _).mono ?_
    rintro e wb ⟨x2, y2, hb, o2, kb⟩
    obtain ⟨ds, hds⟩ : ∃ ds : List Int, ds = [1] := ⟨_, rfl⟩
    rw [← hds] at hb o2
    subst hb
    have HD : Hid (ds = [1]) := hds
    clear hds
    have t : Below v.heap.size v wb := ka.trans (kb.mono ka.size)
    have Rb := R.below t
    have q0 := Rb.box.c0
    have q1 := Rb.box.c1
    have q2 := Rb.box.c2
    have p0 := Rb.box.f0
    have p1 := Rb.box.f1
    have p2 := Rb.box.f2
    go_wp2
    have hR3 := Rb.box.set (.bool true) (.slice x1 ns.length y1) (.slice x2 ds.length y2)
    have r0 := hR3.c0
    have r1 := hR3.c1
    have r2 := hR3.c2
    refine bodyPost_ret (v := .agg #[.bool true, .slice x1 ns.length y1, .slice x2 ds.length y2]) (by simp [results, Try.results67, go_sem, r0, r1, r2]) rfl ?_
    exact ⟨Below.set3 (g.trans (t.mono g.size)) (Nat.le_refl _) _ _ _, true, ns, ds, x1, y1, x2, y2, ⟨hkb.symm, cn, by rw [vn.out, if_pos hk], ln, HD.out⟩, rfl, (Own.set3 (o1.below kb (Nat.le_refl _)) R.lt _ _ _).mono g.size, (Own.set3 (o2.mono ka.size) R.lt _ _ _).mono g.size⟩
  · have hkb : decide (k < 0) = false := decide_eq_false hk
    go_wp2_with fail
    generalize hA : w.alloc (.cells #[.bool false, .slice none 0 0, .slice none 0 0] 49) = v at *
    clear hA
    refine (of_num k (by omega) (by omega) _).mono ?_
    rintro e wa ⟨ns, cn, vn, ln, x1, y1, rfl, o1, ka⟩
    go_wp2_with fail
    refine (one_any _).mono ?_
    rintro e wb ⟨x2, y2, hb, o2, kb⟩
    obtain ⟨ds, hds⟩ : ∃ ds : List Int, ds = [1] := ⟨_, rfl⟩
    rw [← hds] at hb o2
    subst hb
    have HD : Hid (ds = [1]) := hds
    clear hds
    have t : Below v.heap.size v wb := ka.trans (kb.mono ka.size)
    have Rb := R.below t
    have q0 := Rb.box.c0
    have q1 := Rb.box.c1
    have q2 := Rb.box.c2
    have p0 := Rb.box.f0
    have p1 := Rb.box.f1
    have p2 := Rb.box.f2
    go_wp2
    have hR3 := Rb.box.set (.bool false) (.slice x1 ns.length y1) (.slice x2 ds.length y2)
    have r0 := hR3.c0
    have r1 := hR3.c1
    have r2 := hR3.c2
    refine bodyPost_ret (v := .agg #[.bool false, .slice x1 ns.length y1, .slice x2 ds.length y2]) (by simp [results, Try.results67, go_sem, r0, r1, r2]) rfl ?_
    exact ⟨Below.set3 (g.trans (t.mono g.size)) (Nat.le_refl _) _ _ _, false, ns, ds, x1, y1, x2, y2, ⟨hkb.symm, cn, by rw [vn.out, if_neg (by omega)], ln, HD.out⟩, rfl, (Own.set3 (o1.below kb (Nat.le_refl _)) R.lt _ _ _).mono g.size, (Own.set3 (o2.mono ka.size) R.lt _ _ _).mono g.size⟩
end Go.Proofs.Ytkhmbceadeejpaa

/- array.copyOf of a number, array.Rat, array.Int. -/
namespace Go.Proofs.Ytkhmbceadeejpaa
set_option linter.unusedVariables false
set_option linter.unusedSimpArgs false
open Go.RowKit

section
variable {w : World} {b : Bool} {a1 a2 : Option Addr} {c1 c2 : Nat} {ns ds : List Int}
set_option maxRecDepth 100000 in
set_option maxHeartbeats 16000000 in
theorem copyOf_num (h1 : Rd w.heap.size w (.slice a1 ns.length c1) ns) (h2 : Rd w.heap.size w (.slice a2 ds.length c2) ds) (l1 : ns.length * 4 ≤ 140737488355328) (l2 : ds.length * 4 ≤ 140737488355328) :
    Calls Try.prog 49 #[.agg #[.int .u8 1, .bool b, .slice a1 ns.length c1, .slice a2 ds.length c2, .int .i32 0, .slice none 0 0]] w fun e w' => ∃ x1 y1 x2 y2, e = .returned (.agg #[.int .u8 1, .bool b, .slice x1 ns.length y1, .slice x2 ds.length y2, .int .i32 0, .slice none 0 0]) ∧ Own w.heap.size w' (.slice x1 ns.length y1) ns ∧ Own w.heap.size w' (.slice x2 ds.length y2) ds ∧ Below w.heap.size w w' := by
  have X0 := boxA_new w #[.int .u8 1, .bool b, .slice a1 ns.length c1, .slice a2 ds.length c2, .int .i32 0, .slice none 0 0] 52
  have k0 := below_alloc w (.cells #[.int .u8 1, .bool b, .slice a1 ns.length c1, .slice a2 ds.length c2, .int .i32 0, .slice none 0 0] 52)
  have k1 := below_alloc (w.alloc (.cells #[.int .u8 1, .bool b, .slice a1 ns.length c1, .slice a2 ds.length c2, .int .i32 0, .slice none 0 0] 52)) (.cells #[.int .u8 0, .bool false, .slice none 0 0, .slice none 0 0, .int .i32 0, .slice none 0 0] 52)
  have R := boxA_new (w.alloc (.cells #[.int .u8 1, .bool b, .slice a1 ns.length c1, .slice a2 ds.length c2, .int .i32 0, .slice none 0 0] 52)) #[.int .u8 0, .bool false, .slice none 0 0, .slice none 0 0, .int .i32 0, .slice none 0 0] 52
  rw [World.size_alloc] at R
  have X := X0.below k1 (by simp)
  have g : Below w.heap.size w _ := k0.trans (k1.mono (by simp))
  have sv : ((w.alloc (.cells #[.int .u8 1, .bool b, .slice a1 ns.length c1, .slice a2 ds.length c2, .int .i32 0, .slice none 0 0] 52)).alloc (.cells #[.int .u8 0, .bool false, .slice none 0 0, .slice none 0 0, .int .i32 0, .slice none 0 0] 52)).heap.size = w.heap.size + 1 + 1 := by simp
  replace h1 := h1.below g
  replace h2 := h2.below g
  obtain ⟨X0', X1, X2, X3, X4, X5⟩ := X.num
  go_enter Try.func49, Try.ntmps49
  go_upto_region 6 with fail
  generalize hA : (w.alloc (.cells #[.int .u8 1, .bool b, .slice a1 ns.length c1, .slice a2 ds.length c2, .int .i32 0, .slice none 0 0] 52)).alloc (.cells #[.int .u8 0, .bool false, .slice none 0 0, .slice none 0 0, .int .i32 0, .slice none 0 0] 52) = v at *
  clear hA k0 k1 X0
  have hcells : ∀ {w' : World}, Below v.heap.size v w' → w'.cell? ⟨w.heap.size, 1, none⟩ = some (.bool b) ∧ w'.cell? ⟨w.heap.size, 2, none⟩ = some (.slice a1 ns.length c1) ∧ w'.cell? ⟨w.heap.size, 3, none⟩ = some (.slice a2 ds.length c2) := fun hb => by
    obtain ⟨_, q1, q2, q3, _, _⟩ := (X.below hb (by omega)).num
    exact ⟨q1, q2, q3⟩
  have d0 : Below v.heap.size v v.drew := ⟨rfl, rfl, rfl, Nat.le_refl _, fun _ _ => rfl⟩
  have h1' : Rd v.drew.heap.size v.drew (.slice a1 ns.length c1) ns := h1.mono (by simp; omega)
  have h2' : Rd v.heap.size v (.slice a2 ds.length c2) ds := h2.mono (by omega)
  go_region_held3 (fun w' => w'.cell? ⟨w.heap.size, 1, none⟩ = some (.bool b) ∧ w'.cell? ⟨w.heap.size, 2, none⟩ = some (.slice a1 ns.length c1) ∧ w'.cell? ⟨w.heap.size, 3, none⟩ = some (.slice a2 ds.length c2))
    (first | (go_keep; done) | exact tw | exact tw2 | exact tw3)
    (first
      | (have j := tw2; go_at_call 50; refine number_any.mono ?_; rintro e wc ⟨rfl, kc⟩; have tc : Below v.heap.size v wc := tb.trans (kc.mono tb.size); have tw3 := hcells tc; have Rc := R.below tc (by omega); have q0 := Rc.cell 0 rfl; have q1 := Rc.cell 1 rfl; have q2 := Rc.cell 2 rfl; have q3 := Rc.cell 3 rfl; have q4 := Rc.cell 4 rfl; have q5 := Rc.cell 5 rfl; have p0 := Rc.frozen 0; have p1 := Rc.frozen 1; have p2 := Rc.frozen 2; have p3 := Rc.frozen 3; have p4 := Rc.frozen 4; have p5 := Rc.frozen 5)
      | (have j := tw; go_at_call 71; refine (copyLimbs_any ((h2'.below ka).mono ka.size) l2).mono ?_; rintro e wb ⟨x2, y2, rfl, o2, kb⟩; have tb : Below v.heap.size v wb := ka.trans (kb.mono ka.size); have tw2 := hcells tb; have o1b := o1.below kb (Nat.le_refl _))
      | (go_at_call 71; refine (copyLimbs_any h1' l1).mono ?_; rintro e wa ⟨x1, y1, rfl, o1, ka'⟩; have ka : Below v.heap.size v wa := d0.trans (ka'.mono d0.size); have tw := hcells ka))
  all_goals
    go_wp2
    have Rd6 := Rc.set6 (.int .u8 1) (.bool b) (.slice x1 ns.length y1) (.slice x2 ds.length y2) (.int .i32 0) (.slice none 0 0)
    obtain ⟨r0, r1, r2, r3, r4, r5⟩ := Rd6.num
    refine bodyPost_ret (v := .agg #[.int .u8 1, .bool b, .slice x1 ns.length y1, .slice x2 ds.length y2, .int .i32 0, .slice none 0 0]) (by simp [results, Try.results49, go_sem, r0, r1, r2, r3, r4, r5]) rfl ?_
    refine ⟨x1, y1, x2, y2, rfl, ?_, ?_, Below.set6 (g.trans (tc.mono (by omega))) (by omega) _ _ _ _ _ _⟩
    · exact (((o1b.below kc (Nat.le_refl _)).mono (base' := v.heap.size) (by simp)).set6 (by omega) _ _ _ _ _ _).mono (by omega)
    · exact (((o2.below kc (Nat.le_refl _)).mono (base' := v.heap.size) ka.size).set6 (by omega) _ _ _ _ _ _).mono (by omega)
end
end Go.Proofs.Ytkhmbceadeejpaa

/- array.Rat and array.Int: scalars of numbers. -/
namespace Go.Proofs.Ytkhmbceadeejpaa
set_option linter.unusedVariables false
set_option linter.unusedSimpArgs false
open Go.RowKit

/-- In block k lies an item: a number whose limbs are the call's own. -/
def NumAt (base : Nat) (w : World) (k : Nat) (b : Bool) (ns ds : List Int) : Prop :=
  base ≤ k ∧ ∃ x1 y1 x2 y2, BoxA w k 52 #[.int .u8 1, .bool b, .slice x1 ns.length y1, .slice x2 ds.length y2, .int .i32 0, .slice none 0 0] ∧ Own base w (.slice x1 ns.length y1) ns ∧ Own base w (.slice x2 ds.length y2) ds
section
variable {w w' : World} {base base' B k R : Nat} {b : Bool} {ns ds : List Int}
theorem NumAt.lt (h : NumAt base w k b ns ds) : k < w.heap.size := by
  obtain ⟨_, _, _, _, _, h, _⟩ := h
  exact h.lt
theorem NumAt.below (h : NumAt base w k b ns ds) (hb : Below B w w') (hB : w.heap.size ≤ B) : NumAt base w' k b ns ds := by
  obtain ⟨h0, x1, y1, x2, y2, h1, h2, h3⟩ := h
  exact ⟨h0, x1, y1, x2, y2, h1.below hb (Nat.lt_of_lt_of_le h1.lt hB), h2.below hb hB, h3.below hb hB⟩
theorem NumAt.mono (h : NumAt base w k b ns ds) (hB : base' ≤ base) : NumAt base' w k b ns ds := by
  obtain ⟨h0, x1, y1, x2, y2, h1, h2, h3⟩ := h
  exact ⟨Nat.le_trans hB h0, x1, y1, x2, y2, h1, h2.mono hB, h3.mono hB⟩
theorem BoxA.other {ty : Nat} {xs : Array Value} {p : Addr} (h : BoxA w k ty xs) (hp : p.block ≠ k) (v : Value) : BoxA (w.setCell p v) k ty xs := by
  unfold BoxA at *
  have hne : ¬ p.block = k := hp
  simp [World.setCell, Array.getElem?_modify, hne, h]
theorem NumAt.set2 (h : NumAt base w k b ns ds) (hR : R < base) (u v : Value) : NumAt base ((w.setCell ⟨R, 0, none⟩ u).setCell ⟨R, 1, none⟩ v) k b ns ds := by
  obtain ⟨h0, x1, y1, x2, y2, h1, h2, h3⟩ := h
  have hne : R ≠ k := by omega
  refine ⟨h0, x1, y1, x2, y2, (h1.other (p := ⟨R, 0, none⟩) hne _).other (p := ⟨R, 1, none⟩) hne _, ?_, ?_⟩
  · exact (h2.setCell (a := ⟨R, 0, none⟩) (ownBlock_ne h2 hR) _).setCell (a := ⟨R, 1, none⟩) (ownBlock_ne h2 hR) _
  · exact (h3.setCell (a := ⟨R, 0, none⟩) (ownBlock_ne h3 hR) _).setCell (a := ⟨R, 1, none⟩) (ownBlock_ne h3 hR) _
theorem BoxA.set2 {ty : Nat} {u0 u1 : Value} (h : BoxA w R ty #[u0, u1]) (u v : Value) : BoxA ((w.setCell ⟨R, 0, none⟩ u).setCell ⟨R, 1, none⟩ v) R ty #[u, v] := by
  unfold BoxA at h ⊢
  simp [World.setCell, Array.getElem?_modify, h]
theorem Below.set2 (h : Below base w w') (hB : base ≤ R) (u v : Value) : Below base w ((w'.setCell ⟨R, 0, none⟩ u).setCell ⟨R, 1, none⟩ v) :=
  (h.setCell (p := ⟨R, 0, none⟩) hB _).setCell (p := ⟨R, 1, none⟩) hB _
end

theorem ofInt_zero_is {b : Bool} {ns ds : List Int} (h : WholeIs 0 b ns ds) : b = false ∧ ns = [] ∧ ds = [1] := by
  obtain ⟨hb, cn, vn, _, hd⟩ := h
  exact ⟨by rw [hb]; decide, List.eq_nil_of_length_eq_zero ((can_zero cn).2 (by rw [vn]; decide)), hd⟩
/-- A scalar of a number is answered. -/
def ScalarAns (w : World) (b : Bool) (ns ds : List Int) (e : Ending) (w' : World) : Prop :=
  ∃ k, e = .returned (.agg #[.slice none 0 0, .slice (some ⟨k, 0, none⟩) 1 1]) ∧ NumAt w.heap.size w' k b ns ds ∧ Below w.heap.size w w'

set_option maxRecDepth 100000 in
set_option maxHeartbeats 6400000 in
theorem arrInt_zero (w : World) : Calls Try.prog 47 #[.int .i64 0] w fun e w' => ScalarAns w false [] [1] e w' := by
  have R := boxA_new w #[.slice none 0 0, .slice none 0 0] 31
  have g := below_alloc w (.cells #[.slice none 0 0, .slice none 0 0] 31)
  have s0 : w.heap.size < (w.alloc (.cells #[.slice none 0 0, .slice none 0 0] 31)).heap.size := by simp
  go_enter Try.func47, Try.ntmps47
  go_wp2_with fail
  generalize hA : w.alloc (.cells #[.slice none 0 0, .slice none 0 0] 31) = v at *
  clear hA
  refine (ofInt_any 0 (by decide) (by decide) _).mono ?_
  rintro e w1 ⟨k1, bo, on, od, o1, o2, o3, o4, HO, rfl, oo, oe⟩
  go_wp2_with fail
  refine number_any.mono ?_
  rintro e w2 ⟨rfl, k2⟩
  have s1 := k1.size
  have t2 : Below v.heap.size v w2 := k1.trans (k2.mono s1)
  have p1 := oo.below k2 (Nat.le_refl _)
  have p2 := oe.below k2 (Nat.le_refl _)
  go_wp2_with fail
  refine scalar_any.mono ?_
  rintro e w3 ⟨k, rfl, hk, hB, k3⟩
  have s2 := t2.size
  have t3 : Below v.heap.size v w3 := t2.trans (k3.mono s2)
  have hN : NumAt v.heap.size w3 k bo on od := ⟨by omega, _, _, _, _, hB, p1.below k3 (Nat.le_refl _), p2.below k3 (Nat.le_refl _)⟩
  have HN : Hid (NumAt v.heap.size w3 k false [] [1]) := by
    obtain ⟨rfl, rfl, rfl⟩ : bo = false ∧ on = [] ∧ od = [1] := ofInt_zero_is HO.out
    exact hN
  clear hN HO
  have R3 := R.below t3 s0
  have q0 := R3.cell 0 rfl
  have q1 := R3.cell 1 rfl
  have f0 := R3.frozen 0
  have f1 := R3.frozen 1
  go_wp2
  have R4 := R3.set2 (.slice none 0 0) (.slice (some ⟨k, 0, none⟩) 1 1)
  have r0 := R4.cell 0 rfl
  have r1 := R4.cell 1 rfl
  refine bodyPost_ret (v := .agg #[.slice none 0 0, .slice (some ⟨k, 0, none⟩) 1 1]) (by simp [results, Try.results47, go_sem, r0, r1]) rfl ?_
  exact ⟨k, rfl, (HN.out.set2 s0 _ _).mono (by omega), Below.set2 (g.trans (t3.mono (by omega))) (Nat.le_refl _) _ _⟩

set_option maxRecDepth 100000 in
set_option maxHeartbeats 6400000 in
theorem arrRat_any {w : World} {b : Bool} {a1 a2 : Option Addr} {c1 c2 : Nat} {ns ds : List Int} (h1 : Rd w.heap.size w (.slice a1 ns.length c1) ns) (h2 : Rd w.heap.size w (.slice a2 ds.length c2) ds) :
    Calls Try.prog 34 #[.agg #[.bool b, .slice a1 ns.length c1, .slice a2 ds.length c2]] w fun e w' => (RightP b ns ds ∧ ScalarAns w b ns ds e w') ∨ (¬ RightP b ns ds ∧ ScalarAns w false [] [1] e w') := by
  have X := nvar_new (b := b) h1 h2
  have g0 := below_alloc w (.cells #[.bool b, .slice a1 ns.length c1, .slice a2 ds.length c2] 49)
  have k0 := below_alloc (w.alloc (.cells #[.bool b, .slice a1 ns.length c1, .slice a2 ds.length c2] 49)) (.cells #[.slice none 0 0, .slice none 0 0] 31)
  have R := boxA_new (w.alloc (.cells #[.bool b, .slice a1 ns.length c1, .slice a2 ds.length c2] 49)) #[.slice none 0 0, .slice none 0 0] 31
  rw [World.size_alloc] at R
  have s0 : w.heap.size + 1 < ((w.alloc (.cells #[.bool b, .slice a1 ns.length c1, .slice a2 ds.length c2] 49)).alloc (.cells #[.slice none 0 0, .slice none 0 0] 31)).heap.size := by simp
  replace X := X.below k0
  have g := g0.trans (k0.mono (by simp))
  clear h1 h2 g0 k0
  obtain ⟨X0, X1, X2⟩ := X.cells
  go_enter Try.func34, Try.ntmps34
  go_wp2_with fail
  clear X0 X1 X2
  generalize hA : (w.alloc (.cells #[.bool b, .slice a1 ns.length c1, .slice a2 ds.length c2] 49)).alloc (.cells #[.slice none 0 0, .slice none 0 0] 31) = v at *
  clear hA
  refine (right_rat X.rn X.rd (Nat.le_refl _)).mono ?_
  rintro e w1 ⟨⟨r, rfl, hr⟩, k1⟩
  replace X := X.below k1
  have s1 := k1.size
  cases r with
  | false =>
    have HP : Hid (¬ RightP b ns ds) := fun h => by have := hr.2 h; cases this
    clear hr
    go_wp2_with fail
    refine (arrInt_zero _).mono ?_
    rintro e w2 ⟨k, rfl, hN, k2⟩
    have t2 : Below v.heap.size v w2 := k1.trans (k2.mono s1)
    have R3 := R.below t2 s0
    have q0 := R3.cell 0 rfl
    have q1 := R3.cell 1 rfl
    have f0 := R3.frozen 0
    have f1 := R3.frozen 1
    go_wp2
    have R4 := R3.set2 (.slice none 0 0) (.slice (some ⟨k, 0, none⟩) 1 1)
    have r0 := R4.cell 0 rfl
    have r1 := R4.cell 1 rfl
    refine bodyPost_ret (v := .agg #[.slice none 0 0, .slice (some ⟨k, 0, none⟩) 1 1]) (by simp [results, Try.results34, go_sem, r0, r1]) rfl ?_
    exact Or.inr ⟨HP.out, k, rfl, (hN.set2 (by omega) _ _).mono (by omega), Below.set2 (g.trans (t2.mono g.size)) (by omega) _ _⟩
  | true =>
    have HP : Hid (RightP b ns ds) := hr.1 rfl
    have l1 : ns.length * 4 ≤ 140737488355328 := by have := HP.out.1; omega
    have l2 : ds.length * 4 ≤ 140737488355328 := by have := HP.out.2.1; omega
    clear hr
    obtain ⟨X0, X1, X2⟩ := X.cells
    go_wp2_with fail
    clear X0 X1 X2
    refine number_any.mono ?_
    rintro e w2 ⟨rfl, k2⟩
    replace X := X.below k2
    have s2 := k2.size
    go_wp2_with fail
    refine (copyOf_num X.rn X.rd l1 l2).mono ?_
    rintro e w3 ⟨x1, y1, x2, y2, rfl, p1, p2, k3⟩
    have s3 := k3.size
    go_wp2_with fail
    refine scalar_any.mono ?_
    rintro e w4 ⟨k, rfl, hk, hB, k4⟩
    have t4 : Below v.heap.size v w4 := ((k1.trans (k2.mono s1)).trans (k3.mono (by omega))).trans (k4.mono (by omega))
    have hN : NumAt w2.heap.size w4 k b ns ds := ⟨by omega, _, _, _, _, hB, p1.below k4 (Nat.le_refl _), p2.below k4 (Nat.le_refl _)⟩
    have R3 := R.below t4 s0
    have q0 := R3.cell 0 rfl
    have q1 := R3.cell 1 rfl
    have f0 := R3.frozen 0
    have f1 := R3.frozen 1
    go_wp2
    have R4 := R3.set2 (.slice none 0 0) (.slice (some ⟨k, 0, none⟩) 1 1)
    have r0 := R4.cell 0 rfl
    have r1 := R4.cell 1 rfl
    refine bodyPost_ret (v := .agg #[.slice none 0 0, .slice (some ⟨k, 0, none⟩) 1 1]) (by simp [results, Try.results34, go_sem, r0, r1]) rfl ?_
    exact Or.inl ⟨HP.out, k, rfl, (hN.set2 (by omega) _ _).mono (by have := g.size; omega), Below.set2 (g.trans (t4.mono g.size)) (by omega) _ _⟩
end Go.Proofs.Ytkhmbceadeejpaa

/- slices.Equal of limbs that read the same; of two nil shapes. -/
namespace Go.Proofs.Ytkhmbceadeejpaa
set_option linter.unusedVariables false
set_option linter.unusedSimpArgs false
open Go.RowKit

section
variable {w : World} {base k : Nat} {b : Bool} {ns ds : List Int}
end
end Go.Proofs.Ytkhmbceadeejpaa

/- array.Right of a scalar of a right number. -/
namespace Go.Proofs.Ytkhmbceadeejpaa
set_option linter.unusedVariables false
set_option linter.unusedSimpArgs false
open Go.RowKit

section
variable {w : World} {b : Bool} {a1 a2 : Option Addr} {c1 c2 : Nat} {ns ds : List Int}
end
end Go.Proofs.Ytkhmbceadeejpaa

/- array.measured and array.Right of a scalar of a right number. -/
namespace Go.Proofs.Ytkhmbceadeejpaa
set_option linter.unusedVariables false
set_option linter.unusedSimpArgs false
open Go.RowKit

section
variable {w : World} {base k : Nat} {b : Bool} {ns ds : List Int}
theorem BoxA.set0 {w : World} {R ty : Nat} {u0 u1 : Value} (h : BoxA w R ty #[u0, u1]) (u : Value) : BoxA (w.setCell ⟨R, 0, none⟩ u) R ty #[u, u1] := by
  unfold BoxA at h ⊢
  simp [World.setCell, Array.getElem?_modify, h]
theorem BoxA.set1 {w : World} {R ty : Nat} {u0 u1 : Value} (h : BoxA w R ty #[u0, u1]) (u : Value) : BoxA (w.setCell ⟨R, 1, none⟩ u) R ty #[u0, u] := by
  unfold BoxA at h ⊢
  simp [World.setCell, Array.getElem?_modify, h]

end
end Go.Proofs.Ytkhmbceadeejpaa

/- array.Match of two scalars of the same number. -/
namespace Go.Proofs.Ytkhmbceadeejpaa
set_option linter.unusedVariables false
set_option linter.unusedSimpArgs false
open Go.RowKit

section
variable {w : World} {b : Bool} {a1 a2 a3 a4 : Option Addr} {c1 c2 c3 c4 : Nat} {ns ds : List Int} {base base' k j : Nat}
end
end Go.Proofs.Ytkhmbceadeejpaa

/- What texts of numbers answer, in one form; a number's text is read back. -/
namespace Go.Proofs.Ytkhmbceadeejpaa
set_option linter.unusedVariables false
set_option linter.unusedSimpArgs false
open Go.RowKit

theorem Cuts.fix {l A H A' H' : List UInt8} {B B' : Bool} {m m' : Int} (h : Cuts l B m A H) (k : Cuts l B' m' A' H') : B = B' ∧ m = m' ∧ A = A' ∧ H = H' := by
  obtain ⟨k1, ⟨k2, k3, k4, k5⟩ | ⟨x, hx, k2, k3, k4⟩⟩ := k
  · obtain ⟨h1, ⟨h2, h3, h4, h5⟩ | ⟨x, hx, h2, h3, h4⟩⟩ := h
    · exact ⟨by rw [h1, k1], by rw [h2, k2], by rw [h3, k3], by rw [h4, k4]⟩
    · exfalso
      rw [← k3] at h3
      exact k5 x (by rw [h3]; simp) hx
  · obtain ⟨e1, e2, e3⟩ := cuts_unique h hx k3 k4
    exact ⟨h.1.trans k1.symm, e1.trans k2.symm, e2, e3⟩

/-- What a text's parts make, as numbers. -/
def PartSpec (B : Bool) (m : Int) (A H : List UInt8) (b : Bool) (ns ds : List Int) (err : Int) : Prop :=
  ((¬ isNum A ∨ (¬ m = 0 ∧ ¬ isNum H)) ∧ err = 22 ∧ b = false ∧ ns = [] ∧ ds = []) ∨ (isNum A ∧ m = 0 ∧ MakeSpec (sg B (dval A)) 1 b ns ds err) ∨
  (isNum A ∧ isNum H ∧ m = 114 ∧ MakeSpec (sg B (dval A)) (dval H) b ns ds err) ∨ (isNum A ∧ isNum H ∧ m = 46 ∧ MakeSpec (sg B ((dval A * 10 ^ H.length + dval H : Nat) : Int)) ((10 ^ H.length : Nat) : Int) b ns ds err)
theorem PartSpec.unique {B : Bool} {m : Int} {A H : List UInt8} {b c : Bool} {ns ds ms es : List Int} {e f : Int} (h : PartSpec B m A H b ns ds e) (k : PartSpec B m A H c ms es f) : c = b ∧ ms = ns ∧ es = ds ∧ f = e := by
  rcases h with ⟨h1, rfl, rfl, rfl, rfl⟩ | ⟨h1, h2, h3⟩ | ⟨h1, h2, h3, h4⟩ | ⟨h1, h2, h3, h4⟩ <;> rcases k with ⟨k1, rfl, rfl, rfl, rfl⟩ | ⟨k1, k2, k3⟩ | ⟨k1, k2, k3, k4⟩ | ⟨k1, k2, k3, k4⟩
  · exact ⟨rfl, rfl, rfl, rfl⟩
  · exfalso; rcases h1 with h | h
    · exact h k1
    · exact h.1 k2
  · exfalso; rcases h1 with h | h
    · exact h k1
    · exact h.2 k2
  · exfalso; rcases h1 with h | h
    · exact h k1
    · exact h.2 k2
  · exfalso; rcases k1 with h | h
    · exact h h1
    · exact h.1 h2
  · exact h3.unique k3
  · omega
  · omega
  · exfalso; rcases k1 with h | h
    · exact h h1
    · exact h.2 h2
  · omega
  · exact h4.unique k4
  · omega
  · exfalso; rcases k1 with h | h
    · exact h h1
    · exact h.2 h2
  · omega
  · omega
  · exact h4.unique k4
/-- What a text is read as. -/
def TextSpec (s : ByteArray) (b : Bool) (ns ds : List Int) (err : Int) : Prop :=
  (700 < Lib.runeCount s ∧ err = 8 ∧ b = false ∧ ns = [] ∧ ds = []) ∨ (¬ 700 < Lib.runeCount s ∧ ∃ B m A H, Cuts s.data.toList B m A H ∧ PartSpec B m A H b ns ds err)
theorem TextSpec.unique {s : ByteArray} {b c : Bool} {ns ds ms es : List Int} {e f : Int} (h : TextSpec s b ns ds e) (k : TextSpec s c ms es f) : c = b ∧ ms = ns ∧ es = ds ∧ f = e := by
  rcases h with ⟨h1, rfl, rfl, rfl, rfl⟩ | ⟨h1, B, m, A, H, h2, h3⟩ <;> rcases k with ⟨k1, rfl, rfl, rfl, rfl⟩ | ⟨k1, B', m', A', H', k2, k3⟩
  · exact ⟨rfl, rfl, rfl, rfl⟩
  · exact absurd h1 k1
  · exact absurd k1 h1
  · obtain ⟨rfl, rfl, rfl, rfl⟩ := h2.fix k2
    exact h3.unique k3
theorem RParses.spec {w w' : World} {s : ByteArray} {e : Ending} (h : RParses w s e w') : ∃ b ns ds err, Hid (TextSpec s b ns ds err) ∧ RAns w b ns ds err e w' := by
  obtain ⟨hb, ⟨h7, he⟩ | ⟨h7, B, m, A, H, hc, hp⟩⟩ := h
  · exact ⟨false, [], [], 8, Or.inl ⟨h7, rfl, rfl, rfl, rfl⟩, hb, none, 0, none, 0, he, nil_rd _, nil_rd _⟩
  · rcases hp with ⟨h1, he⟩ | ⟨h1, h2, h3⟩ | ⟨h1, h2, h3, h4, he⟩ | ⟨h1, h2, h3, h4, h5⟩ | ⟨h1, h2, h3, h4⟩
    · exact ⟨false, [], [], 22, Or.inr ⟨h7, B, m, A, H, hc, Or.inl ⟨h1, rfl, rfl, rfl, rfl⟩⟩, hb, none, 0, none, 0, he, nil_rd _, nil_rd _⟩
    · obtain ⟨b, ns, ds, err, hs, hr⟩ := h3.spec (by decide)
      exact ⟨b, ns, ds, err, Or.inr ⟨h7, B, m, A, H, hc, Or.inr (Or.inl ⟨h1, h2, hs.out⟩)⟩, hr⟩
    · refine ⟨false, [], [], 22, Or.inr ⟨h7, B, m, A, H, hc, Or.inr (Or.inr (Or.inl ⟨h1, h2, h3, Or.inl ⟨?_, rfl, rfl, rfl, rfl⟩⟩))⟩, hb, none, 0, none, 0, he, nil_rd _, nil_rd _⟩
      rw [h4]; rfl
    · obtain ⟨b, ns, ds, err, hs, hr⟩ := h5.spec (by omega)
      exact ⟨b, ns, ds, err, Or.inr ⟨h7, B, m, A, H, hc, Or.inr (Or.inr (Or.inl ⟨h1, h2, h3, hs.out⟩))⟩, hr⟩
    · obtain ⟨b, ns, ds, err, hs, hr⟩ := h4.spec (Int.natCast_pos.2 (Nat.pow_pos (by decide)))
      exact ⟨b, ns, ds, err, Or.inr ⟨h7, B, m, A, H, hc, Or.inr (Or.inr (Or.inr ⟨h1, h2, h3, hs.out⟩))⟩, hr⟩

theorem runeCount_le (s : ByteArray) : ∀ fuel pos, pos ≤ s.size → pos + Lib.runeCountFrom s fuel pos ≤ s.size
  | 0, pos, h => by unfold Lib.runeCountFrom; omega
  | f + 1, pos, h => by
    unfold Lib.runeCountFrom
    by_cases hp : pos < s.size
    · rw [if_pos hp]
      have h1 := Lib.decode_width_pos s pos hp
      have h2 := dec_end s pos hp
      have ih := runeCount_le s f (pos + (Utf8.decode s pos).2) h2
      omega
    · rw [if_neg hp]; omega

/-- A right number that is made anew of itself. -/
theorem make_self {b c : Bool} {ns ds ms es : List Int} {err : Int} (hr : RightP b ns ds) (h : MakeSpec (sg b (val ns)) (val ds) c ms es err) : err = 0 ∧ c = b ∧ ms = ns ∧ es = ds := by
  have hD : 0 < val ds := (right_pos hr).1
  rcases h with ⟨h0, _⟩ | ⟨_, _, _, _, _, hb⟩ | ⟨_, he, hr', hv⟩
  · omega
  · exact absurd hb (not_big hr rfl hD)
  · obtain ⟨rfl, rfl, rfl⟩ := right_is hr rfl hD hr' hv
    exact ⟨he, rfl, rfl, rfl⟩

theorem dig_not {n : Nat} {y : UInt8} (h : y ∈ Lib.decDigits n) : ¬ isM y ∧ ¬ y.toNat = 194 := by
  have := (dval_decDigits n).2.1 y h
  unfold isM
  omega
theorem isNum_dig (n : Nat) : isNum (Lib.decDigits n) := ⟨(dval_decDigits n).2.1, (dval_decDigits n).2.2⟩
theorem not_mac (n : Nat) (l : List UInt8) : isMac (Lib.decDigits n ++ l) = false := by
  cases h : Lib.decDigits n with
  | nil => have := (dval_decDigits n).2.2; rw [h] at this; simp at this
  | cons a k =>
    have ha := (dig_not (n := n) (y := a) (by rw [h]; simp)).2
    cases hk : k ++ l with
    | nil => simp [isMac, hk]
    | cons c r => simp [isMac, hk, ha]
theorem ratText_list (b : Bool) (ns ds : List Int) : (ratText b ns ds).data.toList = (if b = true then [194, 175] else []) ++ (Lib.decDigits (val ns).toNat ++ (if ds = [1] then [] else 114 :: Lib.decDigits (val ds).toNat)) := by
  unfold ratText digB
  by_cases h1 : ds = [1] <;> cases b <;> simp [h1, ByteArray.data_append]
theorem ratText_cuts (b : Bool) (ns ds : List Int) : Cuts (ratText b ns ds).data.toList b (if ds = [1] then 0 else 114) (Lib.decDigits (val ns).toNat) (if ds = [1] then [] else Lib.decDigits (val ds).toNat) := by
  rw [ratText_list]
  have hm : isMac ((if b = true then [194, 175] else []) ++ (Lib.decDigits (val ns).toNat ++ (if ds = [1] then [] else 114 :: Lib.decDigits (val ds).toNat))) = b := by
    cases b with
    | true => simp [isMac]
    | false => simp only [Bool.false_eq_true, if_false, List.nil_append]; exact not_mac _ _
  have hd : ((if b = true then [194, 175] else []) ++ (Lib.decDigits (val ns).toNat ++ (if ds = [1] then [] else 114 :: Lib.decDigits (val ds).toNat))).drop (st ((if b = true then [194, 175] else []) ++ (Lib.decDigits (val ns).toNat ++ (if ds = [1] then [] else 114 :: Lib.decDigits (val ds).toNat)))) = Lib.decDigits (val ns).toNat ++ (if ds = [1] then [] else 114 :: Lib.decDigits (val ds).toNat) := by
    unfold st
    rw [hm]
    cases b <;> simp
  refine ⟨hm.symm, ?_⟩
  rw [hd]
  by_cases h1 : ds = [1]
  · rw [if_pos h1, if_pos h1, if_pos h1, List.append_nil]
    exact Or.inl ⟨rfl, rfl, rfl, fun y hy => (dig_not hy).1⟩
  · rw [if_neg h1, if_neg h1, if_neg h1]
    exact Or.inr ⟨114, Or.inr rfl, rfl, rfl, fun y hy => (dig_not hy).1⟩
theorem ratText_size {b : Bool} {ns ds : List Int} (hr : RightP b ns ds) : (ratText b ns ds).size ≤ 700 := by
  have h1 := dig_bound hr.2.2.1.1
  have h2 := dig_bound hr.2.2.2.1.1
  have l1 := hr.1
  have l2 := hr.2.1
  have e : (ratText b ns ds).size = (ratText b ns ds).data.toList.length := by simp
  rw [e, ratText_list]
  generalize Lib.decDigits (val ns).toNat = A at *
  generalize Lib.decDigits (val ds).toNat = D at *
  by_cases h1 : ds = [1] <;> cases b <;> simp [h1] <;> omega
/-- A number's text is read as the number. -/
theorem TextSpec.back {b c : Bool} {ns ds ms es : List Int} {err : Int} (hr : RightP b ns ds) (h : TextSpec (ratText b ns ds) c ms es err) : err = 0 ∧ c = b ∧ ms = ns ∧ es = ds := by
  have hsz := ratText_size hr
  rcases h with ⟨h7, _⟩ | ⟨h7, B, m, A, H, hc, hp⟩
  · exfalso
    have := runeCount_le (ratText b ns ds) (ratText b ns ds).size 0 (Nat.zero_le _)
    unfold Lib.runeCount at h7
    omega
  · obtain ⟨rfl, rfl, rfl, rfl⟩ := (ratText_cuts b ns ds).fix hc
    have nv := (val_bound hr.2.2.1.1).1
    have dv := (right_pos hr).1
    have e1 : ((dval (Lib.decDigits (val ns).toNat) : Nat) : Int) = val ns := by rw [(dval_decDigits _).1]; omega
    have e2 : ((dval (Lib.decDigits (val ds).toNat) : Nat) : Int) = val ds := by rw [(dval_decDigits _).1]; omega
    have i1 := isNum_dig (val ns).toNat
    have i2 := isNum_dig (val ds).toNat
    by_cases h1 : ds = [1]
    · simp only [if_pos h1] at hp
      rcases hp with ⟨h2 | h2, _⟩ | ⟨_, _, h3⟩ | ⟨_, _, h3, _⟩ | ⟨_, _, h3, _⟩
      · exact absurd i1 h2
      · exact absurd rfl h2.1
      · rw [e1] at h3
        have v1 : val ds = 1 := by rw [h1]; decide
        rw [← v1] at h3
        exact make_self hr h3
      · exact absurd h3 (by decide)
      · exact absurd h3 (by decide)
    · simp only [if_neg h1] at hp
      rcases hp with ⟨h2 | h2, _⟩ | ⟨_, h3, _⟩ | ⟨_, _, _, h4⟩ | ⟨_, _, h3, _⟩
      · exact absurd i1 h2
      · exact absurd i2 h2.2
      · exact absurd h3 (by decide)
      · rw [e1, e2] at h4
        exact make_self hr h4
      · exact absurd h3 (by decide)
end Go.Proofs.Ytkhmbceadeejpaa

/- lex: what is passed over, pieces, and numbers. -/
namespace Go.Proofs.Ytkhmbceadeejpaa
set_option linter.unusedVariables false
set_option linter.unusedSimpArgs false
open Go.RowKit

/-- The first place from i on that is neither a blank nor in a remark. -/
def passTo (cs : List Int) (i : Nat) : Nat := if runEnd bl cs i < cs.length ∧ cs.getD (runEnd bl cs i) 0 = 9053 then cs.length else runEnd bl cs i
theorem runEnd_le (p : Int → Bool) (cs : List Int) (i : Nat) (hi : i ≤ cs.length) : i ≤ runEnd p cs i ∧ runEnd p cs i ≤ cs.length := by
  unfold runEnd
  have h := (List.takeWhile_sublist p (l := cs.drop i)).length_le
  rw [List.length_drop] at h
  omega

set_option maxRecDepth 100000 in
set_option maxHeartbeats 1600000 in
theorem passed_any {B : Nat} {w : World} {v : Value} {cs : List Int} (h : RdR B w v cs) (i : Nat) (hi : i ≤ cs.length) :
    Calls Try.prog 16 #[v, .int .i64 i] w fun e w' => e = .returned (.int .i64 ((passTo cs i : Nat) : Int)) ∧ w' = w := by
  have h0 := h
  obtain ⟨a, cap, rfl, h1, h2, h3⟩ := h
  have hle := runEnd_le bl cs i hi
  go_enter Try.func16, Try.ntmps16
  go_wp2_with fail
  refine (run_blank h0 i hi).mono ?_
  rintro e w' ⟨rfl, rfl⟩
  have HP : Hid (passTo cs i = if runEnd bl cs i < cs.length ∧ cs.getD (runEnd bl cs i) 0 = 9053 then cs.length else runEnd bl cs i) := rfl
  generalize runEnd bl cs i = j at *
  by_cases hlt : j < cs.length
  · rcases h3 with h3 | ⟨b, off, rfl, hb, hc⟩
    · omega
    have hcj := hc j hlt
    clear hc h0
    generalize hC : cs.getD j 0 = C at *
    by_cases hr : C = 9053
    · have HE : Hid (passTo cs i = cs.length) := by unfold Hid; rw [HP.out, if_pos ⟨hlt, hr⟩]
      have e1 : (C == 9053) = true := by rw [beq_iff_eq]; exact hr
      clear hr HP
      go_wp2
      go_ret
      exact ⟨by rw [HE.out]; rfl, rfl⟩
    · have HE : Hid (passTo cs i = j) := by unfold Hid; rw [HP.out, if_neg (fun h => hr h.2)]
      have e1 : (C == 9053) = false := by rw [beq_eq_false_iff_ne]; exact hr
      clear hr HP
      go_wp2
      go_ret
      exact ⟨by rw [HE.out]; rfl, rfl⟩
  · have HE : Hid (passTo cs i = j) := by unfold Hid; rw [HP.out, if_neg (fun h => hlt h.1)]
    clear HP
    go_wp2
    go_ret
    exact ⟨by rw [HE.out]; rfl, rfl⟩

section
variable {w : World} {cs : List Int} {b off cap : Nat}
set_option maxRecDepth 100000 in
set_option maxHeartbeats 1600000 in
theorem piece_all (kd : Int) (hk : cs.length ≤ cap) (hcap : cap ≤ 9223372036854775807) (h0 : 0 < cs.length) (hc : ∀ j, j < cs.length → w.cell? ⟨b, off + j, none⟩ = some (.int .i32 (cs.getD j 0))) (hlt : b < w.heap.size) :
    Calls Try.prog 28 #[.int .u8 kd, .slice (some ⟨b, off, none⟩) cs.length cap, .int .i64 0, .int .i64 cs.length] w fun e w' => e = .returned (.agg #[.int .u8 kd, .string (runesBytes cs), .int .i64 0, .slice none 0 0, .slice none 0 0]) ∧ Below w.heap.size w w' := by
  have kk := below_alloc w (.cells #[.int .u8 0, .string ⟨#[]⟩, .int .i64 0, .slice none 0 0, .slice none 0 0] 33)
  have hcv := run_convert_runes (P := Try.prog) (w.alloc (.cells #[.int .u8 0, .string ⟨#[]⟩, .int .i64 0, .slice none 0 0, .slice none 0 0] 33)) 39 9 21 ⟨b, off, none⟩ cs.length cap cs (Nat.le_refl _) Try.underlying39 Try.underlying21 Try.underlying9 (fun j hj => by
    have e : ((⟨b, off, none⟩ : Addr).add j) = ⟨b, off + j, none⟩ := by simp [Addr.add]
    rw [e]
    exact (kk.cell (p := ⟨b, off + j, none⟩) hlt).trans (hc j hj))
  rw [List.take_length] at hcv
  go_enter Try.func28, Try.ntmps28
  go_wp2
  have R := boxA_new w #[.int .u8 kd, .string (runesBytes cs), .int .i64 0, .slice none 0 0, .slice none 0 0] 33
  have r0 := R.cell 0 rfl
  have r1 := R.cell 1 rfl
  have r2 := R.cell 2 rfl
  have r3 := R.cell 3 rfl
  have r4 := R.cell 4 rfl
  refine bodyPost_ret (v := .agg #[.int .u8 kd, .string (runesBytes cs), .int .i64 0, .slice none 0 0, .slice none 0 0]) (by simp [results, Try.results28, go_sem, r0, r1, r2, r3, r4]) rfl ?_
  exact ⟨rfl, below_alloc _ _⟩
end

section
variable {w w' : World} {base k R ty : Nat} {b : Bool} {ns ds : List Int} {u0 u1 u2 u3 u4 : Value}
theorem NumAt.setC (h : NumAt base w k b ns ds) (hR : R < base) (i : Nat) (u : Value) : NumAt base (w.setCell ⟨R, i, none⟩ u) k b ns ds := by
  obtain ⟨h0, x1, y1, x2, y2, h1, h2, h3⟩ := h
  have hne : R ≠ k := by omega
  exact ⟨h0, x1, y1, x2, y2, h1.other (p := ⟨R, i, none⟩) hne _, h2.setCell (a := ⟨R, i, none⟩) (ownBlock_ne h2 hR) _, h3.setCell (a := ⟨R, i, none⟩) (ownBlock_ne h3 hR) _⟩
theorem BoxA.set34 (h : BoxA w R ty #[u0, u1, u2, u3, u4]) (u v : Value) : BoxA ((w.setCell ⟨R, 3, none⟩ u).setCell ⟨R, 4, none⟩ v) R ty #[u0, u1, u2, u, v] := by
  unfold BoxA at h ⊢
  simp [World.setCell, Array.getElem?_modify, h]
theorem BoxA.set5 (h : BoxA w R ty #[u0, u1, u2, u3, u4]) (v0 v1 v2 v3 v4 : Value) : BoxA (((((w.setCell ⟨R, 0, none⟩ v0).setCell ⟨R, 1, none⟩ v1).setCell ⟨R, 2, none⟩ v2).setCell ⟨R, 3, none⟩ v3).setCell ⟨R, 4, none⟩ v4) R ty #[v0, v1, v2, v3, v4] := by
  unfold BoxA at h ⊢
  simp [World.setCell, Array.getElem?_modify, h]
theorem Below.set5 (h : Below base w w') (hB : base ≤ R) (v0 v1 v2 v3 v4 : Value) : Below base w (((((w'.setCell ⟨R, 0, none⟩ v0).setCell ⟨R, 1, none⟩ v1).setCell ⟨R, 2, none⟩ v2).setCell ⟨R, 3, none⟩ v3).setCell ⟨R, 4, none⟩ v4) :=
  ((((h.setCell (p := ⟨R, 0, none⟩) hB _).setCell (p := ⟨R, 1, none⟩) hB _).setCell (p := ⟨R, 2, none⟩) hB _).setCell (p := ⟨R, 3, none⟩) hB _).setCell (p := ⟨R, 4, none⟩) hB _
theorem NumAt.set5 (h : NumAt base w k b ns ds) (hR : R < base) (v0 v1 v2 v3 v4 : Value) : NumAt base (((((w.setCell ⟨R, 0, none⟩ v0).setCell ⟨R, 1, none⟩ v1).setCell ⟨R, 2, none⟩ v2).setCell ⟨R, 3, none⟩ v3).setCell ⟨R, 4, none⟩ v4) k b ns ds :=
  ((((h.setC hR 0 v0).setC hR 1 v1).setC hR 2 v2).setC hR 3 v3).setC hR 4 v4
end

theorem run_number1 {B : Nat} {w : World} {v : Value} {cs : List Int} (h : RdR B w v cs) (h0 : 0 < cs.length) (hin : ∀ k, 1 ≤ k → k < cs.length → inn (cs.getD k 0) = true) :
    Calls Try.prog 20 #[v, .int .i64 1, .func (.func 32) #[] #[]] w fun e w' => e = .returned (.int .i64 (cs.length : Int)) ∧ w' = w := by
  have e := runEnd_is (p := inn) (cs := cs) (i := 1) (j := cs.length) (by omega) (Nat.le_refl _) hin (Or.inl rfl)
  have := run_number h 1 (by omega)
  rw [e] at this
  exact this

section
variable {w : World} {cs : List Int} {b off cap : Nat} {bx : Bool} {xn xd : List Int}
/-- A number's token. -/
def TokAns (w : World) (n : Nat) (T : ByteArray) (bx : Bool) (xn xd : List Int) (e : Ending) (w' : World) : Prop :=
  ∃ k, e = .returned (.tuple #[.agg #[.int .u8 1, .string T, .int .i64 0, .slice none 0 0, .slice (some ⟨k, 0, none⟩) 1 1], .int .i64 n, .int .i64 0]) ∧ NumAt w.heap.size w' k bx xn xd ∧ Below w.heap.size w w'

set_option maxRecDepth 100000 in
set_option maxHeartbeats 16000000 in
theorem numberAt_num (hk : cs.length ≤ cap) (hcap : cap ≤ 9223372036854775807) (h0 : 0 < cs.length) (hc : ∀ j, j < cs.length → w.cell? ⟨b, off + j, none⟩ = some (.int .i32 (cs.getD j 0))) (hlt : b < w.heap.size)
    (hin : ∀ k, 1 ≤ k → k < cs.length → inn (cs.getD k 0) = true) (hT : runesBytes cs = ratText bx xn xd) (hr : RightP bx xn xd) :
    Calls Try.prog 23 #[.slice (some ⟨b, off, none⟩) cs.length cap, .int .i64 0] w fun e w' => TokAns w cs.length (runesBytes cs) bx xn xd e w' := by
  have HT : Hid (runesBytes cs = ratText bx xn xd ∧ RightP bx xn xd) := ⟨hT, hr⟩
  have HI : Hid (∀ k, 1 ≤ k → k < cs.length → inn (cs.getD k 0) = true) := hin
  clear hT hr hin
  have k0 := below_alloc w (.cells #[.int .u8 0, .string ⟨#[]⟩, .int .i64 0, .slice none 0 0, .slice none 0 0] 33)
  have R := boxA_new w #[.int .u8 0, .string ⟨#[]⟩, .int .i64 0, .slice none 0 0, .slice none 0 0] 33
  have s0 : w.heap.size < (w.alloc (.cells #[.int .u8 0, .string ⟨#[]⟩, .int .i64 0, .slice none 0 0, .slice none 0 0] 33)).heap.size := by simp
  have HC : Hid (∀ j, j < cs.length → (w.alloc (.cells #[.int .u8 0, .string ⟨#[]⟩, .int .i64 0, .slice none 0 0, .slice none 0 0] 33)).cell? ⟨b, off + j, none⟩ = some (.int .i32 (cs.getD j 0))) := fun j hj => (k0.cell (p := ⟨b, off + j, none⟩) hlt).trans (hc j hj)
  clear hc
  go_enter Try.func23, Try.ntmps23
  go_wp2_with fail
  generalize hA : w.alloc (.cells #[.int .u8 0, .string ⟨#[]⟩, .int .i64 0, .slice none 0 0, .slice none 0 0] 33) = v at *
  clear hA
  have hR : RdR v.heap.size v (.slice (some ⟨b, off, none⟩) cs.length cap) cs := ⟨_, cap, rfl, hk, hcap, Or.inr ⟨b, off, rfl, by omega, HC.out⟩⟩
  refine (run_number1 hR h0 HI.out).mono ?_
  rintro e w1 ⟨rfl, rfl⟩
  go_wp2_with fail
  refine (piece_all 1 hk hcap h0 HC.out (by omega)).mono ?_
  rintro e w2 ⟨rfl, k2⟩
  obtain ⟨T, hTT⟩ : ∃ T, runesBytes cs = T := ⟨_, rfl⟩
  have HT2 : Hid (T = ratText bx xn xd) := by unfold Hid; rw [← hTT]; exact HT.out.1
  have HTc : Hid (runesBytes cs = T) := hTT
  rw [hTT]
  clear hTT HC hR
  have s2 := k2.size
  have kt := below_alloc w2 (.cells #[.int .u8 1, .string T, .int .i64 0, .slice none 0 0, .slice none 0 0] 33)
  have Tk := boxA_new w2 #[.int .u8 1, .string T, .int .i64 0, .slice none 0 0, .slice none 0 0] 33
  have st : w2.heap.size < (w2.alloc (.cells #[.int .u8 1, .string T, .int .i64 0, .slice none 0 0, .slice none 0 0] 33)).heap.size := by simp
  have t1 := Tk.cell 1 rfl
  go_wp2_with fail
  generalize hA : w2.alloc (.cells #[.int .u8 1, .string T, .int .i64 0, .slice none 0 0, .slice none 0 0] 33) = w3 at *
  clear hA t1
  refine (parse_rat T _).mono ?_
  intro e w4 hp
  obtain ⟨bK, nk, dk, ek, HK, k4, z1, i1, z2, i2, rfl, r1, r2⟩ := hp.spec
  clear hp
  obtain ⟨rfl, rfl, rfl, rfl⟩ := TextSpec.back HT.out.2 (by rw [← HT2.out]; exact HK.out)
  clear HK
  have s4 := k4.size
  have K := nvar_new (b := bK) r1 r2
  have kK := below_alloc w4 (.cells #[.bool bK, .slice z1 nk.length i1, .slice z2 dk.length i2] 49)
  have sK := kK.size
  obtain ⟨K0, K1, K2⟩ := K.cells
  go_wp2_with fail
  clear K0 K1 K2 r1 r2
  generalize hA : w4.alloc (.cells #[.bool bK, .slice z1 nk.length i1, .slice z2 dk.length i2] 49) = w5 at *
  clear hA
  refine (arrRat_any K.rn K.rd).mono ?_
  rintro e w6 (⟨_, k, rfl, hN, k6⟩ | ⟨hno, _⟩)
  case inr => exact absurd HT.out.2 hno
  have s6 := k6.size
  have t6 : Below w3.heap.size w3 w6 := (k4.trans (kK.mono s4)).trans (k6.mono (by omega))
  have Tk6 := Tk.below t6 (by omega)
  have q3 := Tk6.cell 3 rfl
  have q4 := Tk6.cell 4 rfl
  have f3 := Tk6.frozen 3
  have f4 := Tk6.frozen 4
  have Tk7 := Tk6.set34 (.slice none 0 0) (.slice (some ⟨k, 0, none⟩) 1 1)
  have m0 := Tk7.cell 0 rfl
  have m1 := Tk7.cell 1 rfl
  have m2 := Tk7.cell 2 rfl
  have m3 := Tk7.cell 3 rfl
  have m4 := Tk7.cell 4 rfl
  have T6 : Below w.heap.size w w6 := (((k0.trans (k2.mono (by omega))).trans (kt.mono (by omega))).trans (t6.mono (by omega)))
  have R6 := ((R.below k2 s0).below kt (by omega)).below t6 (by omega)
  have hRT : w2.heap.size ≠ w.heap.size := by omega
  have R7 := (R6.other (p := ⟨w2.heap.size, 3, none⟩) hRT (.slice none 0 0)).other (p := ⟨w2.heap.size, 4, none⟩) hRT (.slice (some ⟨k, 0, none⟩) 1 1)
  have n0 := R7.cell 0 rfl
  have n1 := R7.cell 1 rfl
  have n2 := R7.cell 2 rfl
  have n3 := R7.cell 3 rfl
  have n4 := R7.cell 4 rfl
  have o0 := R7.frozen 0
  have o1 := R7.frozen 1
  have o2 := R7.frozen 2
  have o3 := R7.frozen 3
  have o4 := R7.frozen 4
  go_wp2
  have R8 := R7.set5 (.int .u8 1) (.string T) (.int .i64 0) (.slice none 0 0) (.slice (some ⟨k, 0, none⟩) 1 1)
  have x0 := R8.cell 0 rfl
  have x1 := R8.cell 1 rfl
  have x2 := R8.cell 2 rfl
  have x3 := R8.cell 3 rfl
  have x4 := R8.cell 4 rfl
  refine bodyPost_ret (v := .tuple #[.agg #[.int .u8 1, .string T, .int .i64 0, .slice none 0 0, .slice (some ⟨k, 0, none⟩) 1 1], .int .i64 cs.length, .int .i64 0]) (by simp [results, Try.results23, go_sem, x0, x1, x2, x3, x4]) rfl ?_
  refine ⟨k, by rw [HTc.out], ?_, ?_⟩
  · exact (((hN.setC (R := w2.heap.size) (by omega) 3 _).setC (R := w2.heap.size) (by omega) 4 _).set5 (by omega) _ _ _ _ _).mono (by omega)
  · exact Below.set5 ((T6.setCell (p := ⟨w2.heap.size, 3, none⟩) (show w.heap.size ≤ w2.heap.size by omega) _).setCell (p := ⟨w2.heap.size, 4, none⟩) (show w.heap.size ≤ w2.heap.size by omega) _) (Nat.le_refl _) _ _ _ _ _

set_option maxRecDepth 100000 in
set_option maxHeartbeats 16000000 in
theorem next_num (hk : cs.length ≤ cap) (hcap : cap ≤ 9223372036854775807) (h0 : 0 < cs.length) (hc : ∀ j, j < cs.length → w.cell? ⟨b, off + j, none⟩ = some (.int .i32 (cs.getD j 0))) (hlt : b < w.heap.size)
    (hfirst : cs.getD 0 0 = 175 ∨ dg (cs.getD 0 0) = true) (hin : ∀ k, 1 ≤ k → k < cs.length → inn (cs.getD k 0) = true) (hT : runesBytes cs = ratText bx xn xd) (hr : RightP bx xn xd) :
    Calls Try.prog 17 #[.slice (some ⟨b, off, none⟩) cs.length cap, .int .i64 0] w fun e w' => TokAns w cs.length (runesBytes cs) bx xn xd e w' := by
  have HT : Hid (runesBytes cs = ratText bx xn xd ∧ RightP bx xn xd) := ⟨hT, hr⟩
  have HI : Hid (∀ k, 1 ≤ k → k < cs.length → inn (cs.getD k 0) = true) := hin
  clear hT hr hin
  have k0 := below_alloc w (.cells #[.int .u8 0, .string ⟨#[]⟩, .int .i64 0, .slice none 0 0, .slice none 0 0] 33)
  have R := boxA_new w #[.int .u8 0, .string ⟨#[]⟩, .int .i64 0, .slice none 0 0, .slice none 0 0] 33
  have s0 : w.heap.size < (w.alloc (.cells #[.int .u8 0, .string ⟨#[]⟩, .int .i64 0, .slice none 0 0, .slice none 0 0] 33)).heap.size := by simp
  have HC : Hid (∀ j, j < cs.length → (w.alloc (.cells #[.int .u8 0, .string ⟨#[]⟩, .int .i64 0, .slice none 0 0, .slice none 0 0] 33)).cell? ⟨b, off + j, none⟩ = some (.int .i32 (cs.getD j 0))) := fun j hj => (k0.cell (p := ⟨b, off + j, none⟩) hlt).trans (hc j hj)
  have hc0 : (w.alloc (.cells #[.int .u8 0, .string ⟨#[]⟩, .int .i64 0, .slice none 0 0, .slice none 0 0] 33)).cell? ⟨b, off, none⟩ = some (.int .i32 (cs.getD 0 0)) := HC.out 0 h0
  clear hc
  generalize cs.getD 0 0 = C at *
  go_enter Try.func17, Try.ntmps17
  go_upto_region 2 with fail
  go_cut [13] from 14 to 19 (fun q wx => q = .bool true ∧ wx = w.alloc (.cells #[.int .u8 0, .string ⟨#[]⟩, .int .i64 0, .slice none 0 0, .slice none 0 0] 33))
  case first =>
    by_cases h175 : C = 175
    · have e1 : (C == 175) = true := by rw [beq_iff_eq]; exact h175
      clear hfirst h175
      go_wp2_with fail
      go_meet
      exact ⟨rfl, rfl⟩
    · have e1 : (C == 175) = false := by rw [beq_eq_false_iff_ne]; exact h175
      have hd : dg C = true := hfirst.resolve_left h175
      clear hfirst h175
      go_wp2_with fail
      refine (isDigit_any C _).mono ?_
      rintro e w' ⟨rfl, rfl⟩
      rw [hd]
      go_wp2_with fail
      go_meet
      exact ⟨rfl, rfl⟩
  case rest =>
    obtain ⟨rfl, rfl⟩ := hcut
    clear hfirst hc0
    go_wp2_with fail
    generalize hA : w.alloc (.cells #[.int .u8 0, .string ⟨#[]⟩, .int .i64 0, .slice none 0 0, .slice none 0 0] 33) = v at *
    clear hA
    refine (numberAt_num hk hcap h0 HC.out (by omega) HI.out HT.out.1 HT.out.2).mono ?_
    rintro e w1 ⟨k, rfl, hN, k1⟩
    obtain ⟨T, hTT⟩ : ∃ T, runesBytes cs = T := ⟨_, rfl⟩
    have HTc : Hid (runesBytes cs = T) := hTT
    rw [hTT]
    clear hTT
    have R7 := R.below k1 s0
    have n0 := R7.cell 0 rfl
    have n1 := R7.cell 1 rfl
    have n2 := R7.cell 2 rfl
    have n3 := R7.cell 3 rfl
    have n4 := R7.cell 4 rfl
    have o0 := R7.frozen 0
    have o1 := R7.frozen 1
    have o2 := R7.frozen 2
    have o3 := R7.frozen 3
    have o4 := R7.frozen 4
    go_wp2
    have R8 := R7.set5 (.int .u8 1) (.string T) (.int .i64 0) (.slice none 0 0) (.slice (some ⟨k, 0, none⟩) 1 1)
    have x0 := R8.cell 0 rfl
    have x1 := R8.cell 1 rfl
    have x2 := R8.cell 2 rfl
    have x3 := R8.cell 3 rfl
    have x4 := R8.cell 4 rfl
    refine bodyPost_ret (v := .tuple #[.agg #[.int .u8 1, .string T, .int .i64 0, .slice none 0 0, .slice (some ⟨k, 0, none⟩) 1 1], .int .i64 cs.length, .int .i64 0]) (by simp [results, Try.results17, go_sem, x0, x1, x2, x3, x4]) rfl ?_
    exact ⟨k, by rw [HTc.out], (hN.set5 s0 _ _ _ _ _).mono (by omega), Below.set5 (k0.trans (k1.mono (by omega))) (Nat.le_refl _) _ _ _ _ _⟩
end
end Go.Proofs.Ytkhmbceadeejpaa

/- lex.Runes of a text without bytes that are none. -/
namespace Go.Proofs.Ytkhmbceadeejpaa
set_option linter.unusedVariables false
set_option linter.unusedSimpArgs false
open Go.RowKit

/-- The characters of a text from a place on. -/
def decs (s : ByteArray) : Nat → Nat → List Int
  | 0, _ => []
  | f + 1, pos => if pos < s.size then ((Utf8.decode s pos).1 : Int) :: decs s f (pos + (Utf8.decode s pos).2) else []
def OwnR (base : Nat) (w : World) (v : Value) (cs : List Int) : Prop := w.ownsRow base 21 1 v cs.length (cs.map (Value.int .i32))
theorem info_i32 : (Try.prog.info? 21).map (fun i => (i.zero, i.size, i.bytes)) = some (some (.int .i32 0), 1, 4) := by kernel_rfl
theorem OwnR.form {base : Nat} {w : World} {v : Value} {cs : List Int} (h : OwnR base w v cs) : ∃ a c, v = .slice a cs.length c := by
  obtain ⟨_, h | ⟨g, cap, cur, hv, _⟩⟩ := h
  · exact ⟨none, 0, by rw [h.1, h.2]⟩
  · exact ⟨_, cap, hv⟩
theorem OwnR.mono {base base' : Nat} {w : World} {v : Value} {cs : List Int} (h : OwnR base w v cs) (hB : base' ≤ base) : OwnR base' w v cs := by
  obtain ⟨h1, h | ⟨g, cap, cur, hv, hg, r⟩⟩ := h
  · exact ⟨h1, Or.inl h⟩
  · exact ⟨h1, Or.inr ⟨g, cap, cur, hv, by omega, r⟩⟩
theorem OwnR.below {base B : Nat} {w w' : World} {v : Value} {cs : List Int} (h : OwnR base w v cs) (hb : Below B w w') (hB : w.heap.size ≤ B) : OwnR base w' v cs := by
  obtain ⟨h1, h | ⟨g, cap, cur, hv, hg, hh, r⟩⟩ := h
  · exact ⟨h1, Or.inl h⟩
  · exact ⟨h1, Or.inr ⟨g, cap, cur, hv, hg, by rw [hb.block g (Nat.lt_of_lt_of_le (lt_of_block hh) hB)]; exact hh, r⟩⟩
theorem OwnR.rd {base : Nat} {w : World} {v : Value} {cs : List Int} (h : OwnR base w v cs) (h0 : 0 < cs.length) : ∃ g cap, v = .slice (some ⟨g, 0, none⟩) cs.length cap ∧ g < w.heap.size ∧ cs.length ≤ cap ∧ cap ≤ 9223372036854775807 ∧ ∀ j, j < cs.length → w.cell? ⟨g, 0 + j, none⟩ = some (.int .i32 (cs.getD j 0)) := by
  have hrow := h
  obtain ⟨_, h | ⟨g, cap, cur, hv, hg, hh, h1, h2, _, _⟩⟩ := h
  · omega
  · subst hv
    refine ⟨g, cap, rfl, lt_of_block hh, h1, by unfold maxLen at h2; omega, fun j hj => ?_⟩
    have := hrow.cellAt j (by omega)
    rw [Nat.zero_add, this]
    simp [List.getD, hj]
theorem OwnR.empty {base : Nat} {w : World} {v : Value} (h : OwnR base w v []) : ∃ a c, v = .slice a 0 c := h.form

set_option maxRecDepth 100000 in
set_option maxHeartbeats 6400000 in
theorem runes_any (s : ByteArray) (w : World) (hs : s.size ≤ 1000000) (hno : ∀ c ∈ decs s s.size 0, ¬ c = 65533) :
    Calls Try.prog 10 #[.string s] w fun e w' => ∃ cs a c, e = .returned (.tuple #[.slice a cs.length c, .int .i64 0, .int .i64 0]) ∧ OwnR w.heap.size w' (.slice a cs.length c) cs ∧ Hid (cs = decs s s.size 0) ∧ Below w.heap.size w w' := by
  obtain ⟨i0, hi, hz0, hz1, hz2⟩ := info_parts info_i32
  have HNO : Hid (∀ c ∈ decs s s.size 0, ¬ c = 65533) := hno
  clear hno
  go_enter Try.func10, Try.ntmps10
  go_wp2
  go_loopw [5] (fun out wr => ∃ (pos fuel : Nat) (cs : List Int) (a : Option Addr) (c : Nat), out = .slice a cs.length c ∧ OwnR (w.heap.size + 1) wr (.slice a cs.length c) cs ∧ wr.heap[w.heap.size]? = some (.stringIter s pos) ∧ Hid (cs ++ decs s fuel pos = decs s s.size 0) ∧ s.size ≤ pos + fuel ∧ cs.length ≤ pos ∧ pos ≤ s.size ∧ Below w.heap.size w wr) (fun _ wr => s.size - wr.iterPos w.heap.size)
  case atStart =>
    refine ⟨0, s.size, [], none, 0, rfl, World.ownsRow_nil _ _ _ _, ?_, rfl, by omega, by simp, by omega, below_alloc _ _⟩
    exact World.iter_heap w s 0
  case round =>
    obtain ⟨pos, fuel, cs, a, c, rfl, hO, hit, HD, hf, hcl, hps, hb⟩ := hrel
    have hsz : w.heap.size < wr.heap.size := (Array.getElem?_eq_some_iff.1 hit).1
    by_cases hp : pos < s.size
    · have hnx : ∀ ty, (Instr.next (.pointer (some ⟨w.heap.size, 0, none⟩)) true ty).run Try.prog wr = _ := fun ty => Lib.run_next_any_at wr w.heap.size s pos ty hit hp
      have hwd := Lib.decode_width_pos s pos hp
      have hwe := dec_end s pos hp
      obtain ⟨f, rfl⟩ : ∃ f, fuel = f + 1 := ⟨fuel - 1, by omega⟩
      have HS : Hid (decs s (f + 1) pos = ((Utf8.decode s pos).1 : Int) :: decs s f (pos + (Utf8.decode s pos).2)) := by
        unfold Hid
        rw [decs, if_pos hp]
      have hC : ((((Utf8.decode s pos).1 : Nat) : Int) == 65533) = false := by
        rw [beq_eq_false_iff_ne]
        refine HNO.out _ ?_
        rw [← HD.out, HS.out]
        simp
      have hit2 := Lib.iterAt_heap wr w.heap.size s pos (pos + (Utf8.decode s pos).2) hit
      have hb2 := Lib.below_iterAt hb (k := w.heap.size) (by omega) s (pos + (Utf8.decode s pos).2)
      have hO2 : OwnR (w.heap.size + 1) (wr.iterAt w.heap.size s (pos + (Utf8.decode s pos).2)) (.slice a cs.length c) cs := ownsRow_iterAt hO (by omega) s _
      have HQ : Hid (wr.iterPos w.heap.size = pos) := by unfold Hid; simp only [World.iterPos, hit]
      generalize (Utf8.decode s pos).2 = n at *
      generalize (Utf8.decode s pos).1 = C at *
      generalize wr.iterAt w.heap.size s (pos + n) = W2 at *
      have hsz2 : w.heap.size < W2.heap.size := (Array.getElem?_eq_some_iff.1 hit2).1
      clear hit hb hO
      go_wp2_with (at_builtin; refine wpList_append_own _ rfl _ _ 39 rfl (w.heap.size + 1) 21 i0 (.int .i32 0) 1 4 Try.underlying39 hi hz0 hz1 hz2 rfl (by decide) _ _ _ rfl (hO2.alloc _) ⟨W2.heap.size, 0, none⟩ 1 1 [.int .i32 C] rfl rfl ?c1 ?c2 ?c3 ?c4 ?c5 ?_)
      case c1 =>
        intro j u hj
        match j, hj with
        | 0, hj => simp at hj; subst hj; simp [Addr.add]
      case c2 => intro u hu; simp at hu; subst hu; rfl
      case c3 => unfold maxLen; omega
      case c4 => omega
      case c5 => simp; omega
      intro v' w1 hown' hgrow _
      have hO3 : OwnR (w.heap.size + 1) w1 v' (cs ++ [(C : Int)]) := by
        unfold OwnR
        rw [List.length_append, List.map_append]; exact hown'
      obtain ⟨a2, c2, rfl⟩ := hO3.form
      have hrow : ∀ k, (Value.slice a cs.length c).ownBlock = some k → w.heap.size + 1 ≤ k := fun k hk => (hO2.lt k hk).1
      have hit3 : w1.heap[w.heap.size]? = some (.stringIter s (pos + n)) := by
        rw [hgrow.block w.heap.size (by simp; omega) (fun e => by have := hrow _ e.symm; omega), Below.heap_alloc _ _ _ hsz2]
        exact hit2
      have hb3 : Below w.heap.size w w1 := (hb2.alloc (by omega) _).grown hgrow (by simp; omega) (fun k hk => by have := hrow k hk; omega)
      clear hown' hgrow hO2 hit2 hb2 hrow
      go_wp2
      go_roundw
      case rel => exact ⟨pos + n, f, cs ++ [(C : Int)], a2, c2, (by first | rfl | simp), hO3, hit3, (by unfold Hid; rw [List.append_assoc, List.singleton_append, ← HS.out]; exact HD.out), by omega, (by simp; omega), by omega, hb3⟩
      case measure =>
        rw [HQ.out]
        simp only [World.iterPos, hit3]
        omega
    · have hnx : ∀ ty, (Instr.next (.pointer (some ⟨w.heap.size, 0, none⟩)) true ty).run Try.prog wr = _ := fun ty => Lib.run_next_end_at wr w.heap.size s pos ty hit hp
      have HE : Hid (cs = decs s s.size 0) := by
        unfold Hid
        rw [← HD.out]
        cases fuel with
        | zero => simp [decs]
        | succ f => simp [decs, hp]
      go_wp2
      refine bodyPost_ret (v := .tuple #[.slice a cs.length c, .int .i64 0, .int .i64 0]) (by simp [results, Try.results10, go_sem]) rfl ?_
      exact ⟨cs, a, c, rfl, OwnR.mono hO (by omega), HE, hb⟩
end Go.Proofs.Ytkhmbceadeejpaa
