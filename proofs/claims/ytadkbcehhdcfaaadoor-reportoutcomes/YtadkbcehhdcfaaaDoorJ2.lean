/- (*strings.Builder).copyCheck, WriteString, at this program (after the library's own text for other programs). -/
import Derived.Test.YtadkbcehhdcfaaaDoorJ1
import Derived.Test.YtadkbcehhdcfaaaDoorShelf
import Derived.Lib.AppendStr
import Derived.Lib.ItoaMem
import Derived.Deep.LoopGhost
namespace Go.Proofs.YtadkbcehhdcfaaaDoor
set_option linter.unusedVariables false
set_option linter.unusedSimpArgs false
open Go.RowKit

theorem size_builder : (Tryd.prog.info? 66).map (·.size) = some 2 := by kernel_rfl
theorem lies_builder : liesAt Tryd.prog Tryd.prog.depth 66 (2 / Tryd.prog.cellsOf 66) 0 66 1 = true := by kernel_rfl
theorem info_u8 : (Tryd.prog.info? 5).map (fun i => (i.zero, i.size, i.bytes)) = some (some (.int .u8 0), 1, 1) := by kernel_rfl

set_option maxHeartbeats 1000000 in
set_option maxRecDepth 100000 in
theorem copyCheck_used (b : Nat) (w : World) (h0 : w.cell? ⟨b, 0, none⟩ = some (.pointer (some ⟨b, 0, none⟩))) :
    Calls Tryd.prog 53 #[.pointer (some ⟨b, 0, none⟩)] w fun e w' => e = .returned (.tuple #[]) ∧ w' = w := by
  obtain ⟨j, hj, _⟩ := Option.map_eq_some_iff.1 size_builder
  go_enter Tryd.func53, Tryd.ntmps53
  go_wp2
  rw [Lib.run_neq_ptr_same w _ Tryd.underlying63 hj]
  go_wp2
  go_end0
  exact ⟨rfl, rfl⟩

set_option maxHeartbeats 1000000 in
set_option maxRecDepth 100000 in
theorem copyCheck_fresh (b : Nat) (w : World) (h0 : w.cell? ⟨b, 0, none⟩ = some (.pointer none)) (hsh : w.shape? b = some (66, 2)) (hfz : w.frozen? ⟨b, 0, none⟩ = false) :
    Calls Tryd.prog 53 #[.pointer (some ⟨b, 0, none⟩)] w fun e w' => e = .returned (.tuple #[]) ∧ w' = w.setCell ⟨b, 0, none⟩ (.pointer (some ⟨b, 0, none⟩)) := by
  obtain ⟨j, hj, hjs⟩ := Option.map_eq_some_iff.1 size_builder
  go_enter Tryd.func53, Tryd.ntmps53
  go_wp2
  rw [Lib.run_to_unsafe w ⟨b, 0, none⟩ Tryd.underlying63 Tryd.underlying100 hj (by rw [hjs]; decide) hsh (Nat.zero_lt_succ 1)]
  simp only [Result.andThen]
  rw [Oper.upon_value]
  go_wp2
  rw [run_callFunc_extern Tryd.func64 (by kernel_rfl) (by kernel_rfl) (by kernel_rfl) (e := Extern.AbiNoEscape.same) (by kernel_rfl)]
  rw [Lib.run_noEscape]
  simp only [Result.andThen]
  rw [Oper.upon_value]
  go_wp2
  rw [Lib.run_from_unsafe w ⟨b, 0, none⟩ Tryd.underlying100 Tryd.underlying63 hj hsh lies_builder]
  simp only [Result.andThen]
  rw [Oper.upon_value]
  go_wp2
  go_end0
  exact ⟨rfl, rfl⟩

theorem copyCheck_any (B b : Nat) (bs : List Value) (w : World) (h : Lib.IsBuilder 66 5 B b bs w) :
    Calls Tryd.prog 53 #[.pointer (some ⟨b, 0, none⟩)] w fun e w' => e = .returned (.tuple #[]) ∧ (Lib.BuilderAt 66 5 B b (.pointer (some ⟨b, 0, none⟩)) bs w' ∧ Below B w w') := by
  rcases h with h | h
  · refine (copyCheck_fresh b w h.cell0 h.shape h.frozen0).mono ?_
    rintro e w' ⟨rfl, rfl⟩
    exact ⟨rfl, h.used _, (Below.refl B w).setCell (p := ⟨b, 0, none⟩) h.1 _⟩
  · refine (copyCheck_used b w h.cell0).mono ?_
    rintro e w' ⟨rfl, rfl⟩
    exact ⟨rfl, h, Below.refl B _⟩

set_option maxHeartbeats 2000000 in
set_option maxRecDepth 100000 in
theorem writeString_any (B b : Nat) (bs : List Value) (s : ByteArray) (w : World) (h : Lib.IsBuilder 66 5 B b bs w) (hlen : bs.length + s.size ≤ 140737488355328) (hBw : B ≤ w.heap.size) :
    Calls Tryd.prog 36 #[.pointer (some ⟨b, 0, none⟩), .string s] w fun e w' => e = .returned (.tuple #[.int .i64 s.size, .nilIface]) ∧ (Lib.BuilderAt 66 5 B b (.pointer (some ⟨b, 0, none⟩)) (bs ++ Lib.strCells s) w' ∧ Below B w w') := by
  obtain ⟨i0, hi, hz0, hz1, hz2⟩ := info_parts info_u8
  go_enter Tryd.func36, Tryd.ntmps36
  go_wp2_with (go_at_call 53; refine (copyCheck_any B b bs _ h).mono ?_)
  rintro e w1 ⟨rfl, h1, hb1⟩
  obtain ⟨hB, v, hbk, hown, hne⟩ := h1
  have c0 : w1.cell? ⟨b, 0, none⟩ = some (.pointer (some ⟨b, 0, none⟩)) := by rw [Lib.cell_of_heap hbk]; rfl
  have c1 : w1.cell? ⟨b, 1, none⟩ = some v := by rw [Lib.cell_of_heap hbk]; rfl
  go_wp2_with (at_builtin; refine Lib.wpList_append_own_string _ rfl _ _ 64 9 rfl B 5 i0 Tryd.underlying64 Tryd.underlying9 hi hz0 hz1 hz2 _ _ _ rfl hown s rfl ?c3 ?c4 ?c5 ?_)
  case c3 => unfold maxLen; omega
  case c4 => omega
  case c5 => have := hb1.size; omega
  intro v' w2 hown' hgrow _
  have hlt : b < w1.heap.size := lt_of_block hbk
  have hb2 : w2.heap[b]? = some (.cells #[.pointer (some ⟨b, 0, none⟩), v] 66 (0, 0)) := by
    rw [hgrow.block b hlt (fun e => hne e.symm)]
    exact hbk
  have d0 : w2.cell? ⟨b, 0, none⟩ = some (.pointer (some ⟨b, 0, none⟩)) := by rw [Lib.cell_of_heap hb2]; rfl
  have d1 : w2.cell? ⟨b, 1, none⟩ = some v := by rw [Lib.cell_of_heap hb2]; rfl
  have f1 : w2.frozen? ⟨b, 1, none⟩ = false := Lib.frozen_of_heap hb2 1
  obtain ⟨ao, n', cap, rfl⟩ : ∃ ao n' cap, v' = .slice ao n' cap := by
    rcases hown'.2 with ⟨hv, _⟩ | ⟨g, cap, cur, hv, _⟩
    · exact ⟨_, _, _, hv⟩
    · exact ⟨_, _, _, hv⟩
  go_wp2
  go_ret2
  refine ⟨rfl, ?_, ?_⟩
  · exact Lib.BuilderAt.put (T := 66) (e := 5) hB hb2 (bs' := bs ++ Lib.strCells s) (by simpa [Lib.strCells_length] using hown') (by decide)
  · exact (hb1.grown hgrow (by have := hb1.size; omega) (fun k hk => (hown.lt k hk).1)).setCell (p := ⟨b, 1, none⟩) hB _
end Go.Proofs.YtadkbcehhdcfaaaDoor

/- strconv.FormatUint at base 10: the decimal digits (after the library's way for FormatInt). -/
namespace Go.Proofs.YtadkbcehhdcfaaaDoor
set_option linter.unusedVariables false
set_option linter.unusedSimpArgs false
open Go.RowKit Go.Sort

theorem holds_zero0 (w : World) (T : TypeId) (nd : Nat) (hs : nd ≤ 24) : Holds (fun (b : UInt8) => Value.int .u8 (b.toNat : Int)) (w.alloc (.cells Lib.zeros24 T)) w.heap.size 0 (Array.replicate nd (0 : UInt8)) := fun j hj => by
  have hj' : j < nd := by simpa using hj
  refine ⟨?_, World.frozen?_alloc_new _ _ _ _⟩
  rw [World.cell?_alloc_new, Lib.zeros24_at _ (by omega), getElem!_pos _ j hj]
  simp

theorem below_put (w : World) (o : Obj) (dk : Array UInt8) (k : Nat) : Below w.heap.size w ((putRow (fun (b : UInt8) => Value.int .u8 (b.toNat : Int)) (w.alloc o) w.heap.size 0 dk).drewN k) := by
  obtain ⟨os', _, e⟩ := putRow_grow_new (fun (b : UInt8) => Value.int .u8 (b.toNat : Int)) w #[o] w.heap.size 0 dk (Nat.le_refl _)
  rw [← alloc_eq_grow] at e
  rw [e]
  have hb : Below w.heap.size w (grow w os') := by
    refine ⟨rfl, rfl, rfl, ?_, fun q hq => ?_⟩
    · simp [grow]
    · simp [grow, Array.getElem?_append, hq]
  exact below_drewN' hb k

end Go.Proofs.YtadkbcehhdcfaaaDoor

/- (*printer).groups: the groups of nine decimal digits, the lowest first. -/
namespace Go.Proofs.YtadkbcehhdcfaaaDoor
set_option linter.unusedVariables false
set_option linter.unusedSimpArgs false
open Go.RowKit

theorem Kept2.trans {a b c : World} {B : Nat} {r : Option Nat} (h : Kept2 a b B r) (k : Kept2 b c B r) : Kept2 a c B r :=
  ⟨k.os.trans h.os, k.tape.trans h.tape, k.output.trans h.output, Nat.le_trans h.size k.size, fun i hi hB hr => (k.block i (Nat.lt_of_lt_of_le hi h.size) hB hr).trans (h.block i hi hB hr)⟩
theorem Kept2.alloc {a w : World} {B : Nat} {r : Option Nat} (h : Kept2 a w B r) (o : Obj) : Kept2 a (w.alloc o) B r :=
  ⟨h.os, h.tape, h.output, by simp; have := h.size; omega, fun k hk hB hr => by rw [Below.heap_alloc _ _ _ (Nat.lt_of_lt_of_le hk h.size)]; exact h.block k hk hB hr⟩
theorem Kept2.grown {a w w' : World} {B : Nat} {r row : Option Nat} (h : Kept2 a w B r) (hg : w.grownBy w' row) (hr : ∀ k, row = some k → a.heap.size ≤ k) : Kept2 a w' B r :=
  ⟨hg.os.trans h.os, hg.tape.trans h.tape, hg.output.trans h.output, Nat.le_trans h.size hg.size, fun k hk hB hr2 => by
    rw [hg.block k (Nat.lt_of_lt_of_le hk h.size) (fun e => by have := hr k e.symm; omega)]; exact h.block k hk hB hr2⟩

theorem Own.kept2 {base B : Nat} {w w' : World} {v : Value} {xs : List Int} {r : Option Nat} (h : Own base w v xs) (hk : Kept2 w w' B r) (hB : v.ownBlock ≠ some B) (hr : ∀ k, v.ownBlock = some k → some k ≠ r) : Own base w' v xs := by
  obtain ⟨hl, h1, h | ⟨g, cap, cur, rfl, hg, hh, rest⟩⟩ := h
  · exact ⟨hl, h1, Or.inl h⟩
  · exact ⟨hl, h1, Or.inr ⟨g, cap, cur, rfl, hg, by rw [hk.block g (lt_of_block hh) (fun e => hB (by rw [e]; rfl)) (hr g rfl)]; exact hh, rest⟩⟩

/-- The number that groups of nine digits say, the lowest first. -/
def val9 : List Int → Int
  | [] => 0
  | x :: xs => x + 1000000000 * val9 xs
def pw9 (k : Nat) : Int := 1000000000 ^ k
theorem pw9_succ (k : Nat) : pw9 (k + 1) = 1000000000 * pw9 k := by unfold pw9; rw [Int.pow_succ, Int.mul_comm]
theorem val9_append (xs ys : List Int) : val9 (xs ++ ys) = val9 xs + pw9 xs.length * val9 ys := by
  induction xs with
  | nil => simp [val9, pw9]
  | cons x xs ih =>
    simp only [List.cons_append, val9, ih, List.length_cons, pw9_succ, Int.mul_add, Int.mul_assoc]
    omega
/-- Each one a group. -/
def lim9 (xs : List Int) : Prop := ∀ x ∈ xs, 0 ≤ x ∧ x < 1000000000

theorem group_step (gs : List Int) (V V0 : Int) (h : val9 gs + pw9 gs.length * V = V0) : val9 (gs ++ [V % 1000000000]) + pw9 (gs ++ [V % 1000000000]).length * (V / 1000000000) = V0 := by
  have hd : 1000000000 * (V / 1000000000) + V % 1000000000 = V := Int.mul_ediv_add_emod V 1000000000
  rw [val9_append, List.length_append]
  show _ + pw9 (gs.length + 1) * _ = _
  rw [pw9_succ]
  simp only [val9]
  generalize V / 1000000000 = q at *
  generalize V % 1000000000 = r at *
  subst hd
  simp only [Int.mul_zero, Int.add_zero]
  simp only [Int.mul_add, Int.add_mul, Int.mul_assoc, Int.mul_comm, Int.mul_left_comm] at *
  omega

theorem pw9_pos (k : Nat) : 0 < pw9 k := by
  induction k with
  | zero => decide
  | succ k ih => rw [pw9_succ]; omega
theorem pw9_mono {j k : Nat} (h : j ≤ k) : pw9 j ≤ pw9 k := by
  induction h with
  | refl => exact Int.le_refl _
  | step _ ih => rw [pw9_succ]; have := pw9_pos j; omega
theorem pw9_ge (L : Nat) : pw L ≤ pw9 (2 * L) := by
  induction L with
  | zero => decide
  | succ L ih =>
    show pw (L + 1) ≤ pw9 (2 * L + 1 + 1)
    rw [pw_succ, pw9_succ, pw9_succ]
    have := pw_pos L
    omega
theorem pw9_few (k L : Nat) (V : Int) (h1 : pw9 k ≤ V) (h2 : V < pw L) : k ≤ 2 * L := by
  by_cases h : k ≤ 2 * L
  · exact h
  · have := pw9_mono (j := 2 * L) (k := k) (by omega)
    have := pw9_ge L
    omega
theorem pw9_le_mul (k : Nat) (V : Int) (h : 1 ≤ V) : pw9 k ≤ pw9 k * V := by
  have h1 : pw9 k * 1 ≤ pw9 k * V := Int.mul_le_mul_of_nonneg_left h (Int.le_of_lt (pw9_pos k))
  omega
theorem lim9_nonneg {gs : List Int} (h : lim9 gs) : 0 ≤ val9 gs := by
  induction gs with
  | nil => exact Int.le_refl _
  | cons x xs ih =>
    have h1 := h x (by simp)
    have h2 := ih (fun y hy => h y (by simp [hy]))
    simp only [val9]; omega
theorem last_append (gs : List Int) (x : Int) : (gs ++ [x]).getD ((gs ++ [x]).length - 1) 0 = x := by simp

theorem ownBlock_slice (a : Option Addr) (m n c d : Nat) : (Value.slice a m c).ownBlock = (Value.slice a n d).ownBlock := by cases a <;> rfl

end Go.Proofs.YtadkbcehhdcfaaaDoor

/- nat.Print of a number below 10^9: one group of digits. -/
namespace Go.Proofs.YtadkbcehhdcfaaaDoor
set_option linter.unusedVariables false
set_option linter.unusedSimpArgs false
open Go.RowKit

/-- A listed table outlives new memory. -/
theorem tabIs_below {P : Program} {w w' : World} {name : String} {k : IntKind} {zs : List Int} (h : Lib.TabIs P w name k zs) (hb : Below w.heap.size w w') : Lib.TabIs P w' name k zs := by
  unfold Lib.TabIs World.var? at *
  cases hg : P.globalNamed name with
  | none => simp [hg] at h
  | some g =>
    simp only [hg, Option.bind_some] at h ⊢
    have hlt : g < w.heap.size := by
      rcases Nat.lt_or_ge g w.heap.size with h' | h'
      · exact h'
      · rw [Array.getElem?_eq_none h'] at h; simp at h
    rw [hb.block g hlt]
    exact h

theorem val9_low {gs : List Int} (h : lim9 gs) (hne : ¬ gs = []) (hl : ¬ gs.getD (gs.length - 1) 0 = 0) : pw9 (gs.length - 1) ≤ val9 gs := by
  induction gs with
  | nil => exact absurd rfl hne
  | cons x xs ih =>
    have hx := h x (by simp)
    cases xs with
    | nil => simp [val9, pw9] at *; omega
    | cons y ys =>
      have h1 := ih (fun z hz => h z (by simp [hz])) (by simp) (by simpa using hl)
      simp only [List.length_cons, Nat.add_sub_cancel] at *
      rw [pw9_succ]
      rw [show val9 (x :: y :: ys) = x + 1000000000 * val9 (y :: ys) from rfl]
      omega

theorem one_group {gs : List Int} (h : lim9 gs) (hl : gs = [] ∨ ¬ gs.getD (gs.length - 1) 0 = 0) (hv : val9 gs < 1000000000) : gs = [] ∨ ∃ g, gs = [g] := by
  by_cases h0 : gs = []
  · exact Or.inl h0
  · rcases hl with hl | hl
    · exact Or.inl hl
    · have h1 := val9_low h h0 hl
      match gs, h0 with
      | [g], _ => exact Or.inr ⟨g, rfl⟩
      | x :: y :: r, _ =>
        have h2 := pw9_mono (j := 1) (k := (x :: y :: r).length - 1) (by simp)
        have h3 : pw9 1 = 1000000000 := by decide
        omega

/-- What nat.Print hands back: the decimal digits. -/
def Digits (w : World) (n : Int) (e : Ending) (w' : World) : Prop := e = .returned (.string ⟨(Lib.decDigits n.toNat).toArray⟩) ∧ Below w.heap.size w w'

theorem ret_str {s t : ByteArray} (h : s = t) : Ending.returned (.string s) = .returned (.string t) := by rw [h]
theorem digits_zero : (⟨#[48]⟩ : ByteArray) = ⟨(Lib.decDigits (Int.toNat 0)).toArray⟩ := by
  rw [Lib.decDigits_one (by decide)]; rfl

theorem builder_below {T e : TypeId} {B b : Nat} {bs : List Value} {w w' : World} (h : Lib.IsBuilder T e B b bs w) (hb : Below w.heap.size w w') : Lib.IsBuilder T e B b bs w' := by
  have key : ∀ p, Lib.BuilderAt T e B b p bs w → Lib.BuilderAt T e B b p bs w' := by
    intro p ⟨hB, v, hbk, hown, hne⟩
    refine ⟨hB, v, by rw [hb.block b (lt_of_block hbk)]; exact hbk, ?_, hne⟩
    obtain ⟨h1, h | ⟨g, cap, cur, hv, hg, hh, r⟩⟩ := hown
    · exact ⟨h1, Or.inl h⟩
    · exact ⟨h1, Or.inr ⟨g, cap, cur, hv, hg, by rw [hb.block g (lt_of_block hh)]; exact hh, r⟩⟩
  rcases h with h | h
  · exact Or.inl (key _ h)
  · exact Or.inr (key _ h)

theorem nDigits_le {u : Nat} (h : u < 18446744073709551616) : Lib.nDigits u ≤ 20 := by
  by_cases h0 : u < 10
  · rw [Lib.nDigits_small h0]; omega
  · have := Lib.numDigits_eq u (by omega) h; split at this <;> omega

theorem strCells_digits (n : Nat) : Lib.strCells ⟨(Lib.decDigits n).toArray⟩ = Lib.byteCells (Lib.decDigits n) := by
  simp [Lib.strCells, Lib.byteCells]

end Go.Proofs.YtadkbcehhdcfaaaDoor

/- Limbs of small numbers (for the seats without layer 1's laws). -/
namespace Go.Proofs.YtadkbcehhdcfaaaDoor
set_option linter.unusedVariables false
set_option linter.unusedSimpArgs false
open Go.RowKit

theorem limbs_of {qs : List Int} (cq : can qs) (n : Int) (h0 : 0 < n) (h1 : n < 4294967296) (h : val qs = n) : qs = [n] := by
  refine can_inj cq ⟨fun x hx => by simp at hx; omega, Or.inr (by simp; omega)⟩ ?_
  rw [h]; simp [val]

theorem of_small (n : Int) (h0 : 0 < n) (h1 : n < 4294967296) : tr [n % 4294967296, n / 4294967296] = [n] := by
  have h := of_limb n (by omega) h1
  exact limbs_of h.2.1 n h0 h1 h.1
end Go.Proofs.YtadkbcehhdcfaaaDoor

/- Sums and products of two and of three numbers; Compare as a call that turns no memory. -/
namespace Go.Proofs.YtadkbcehhdcfaaaDoor
set_option linter.unusedVariables false
set_option linter.unusedSimpArgs false
open Go.RowKit

theorem rd_alloc {B : Nat} {w : World} {v : Value} {xs : List Int} (h : Rd B w v xs) (hB : B ≤ w.heap.size) (o : Obj) : Rd (w.heap.size + 1) (w.alloc o) v xs :=
  (h.below ((Below.refl _ w).alloc hB o)).mono (by omega)

theorem many3 {B1 B2 B3 : Nat} {w : World} {v1 v2 v3 : Value} {x1 x2 x3 : List Int} (h1 : Rd B1 w v1 x1) (h2 : Rd B2 w v2 x2) (h3 : Rd B3 w v3 x3) (b1 : B1 ≤ w.heap.size) (b2 : B2 ≤ w.heap.size) (b3 : B3 ≤ w.heap.size) :
    Many (w.alloc (.cells #[v1, v2, v3] 55)) w.heap.size 3 [v1, v2, v3] [x1, x2, x3] where
  lv := rfl
  lx := rfl
  lt := by simp
  cell := fun j hj => by
    match j, hj with
    | 0, _ => simp
    | 1, _ => simp
    | 2, _ => simp
  rd := fun j hj => by
    rw [show (w.alloc (.cells #[v1, v2, v3] 55)).heap.size = w.heap.size + 1 by simp]
    match j, hj with
    | 0, _ => exact rd_alloc h1 b1 _
    | 1, _ => exact rd_alloc h2 b2 _
    | 2, _ => exact rd_alloc h3 b3 _

theorem many2 {B1 B2 : Nat} {w : World} {v1 v2 : Value} {x1 x2 : List Int} (h1 : Rd B1 w v1 x1) (h2 : Rd B2 w v2 x2) (b1 : B1 ≤ w.heap.size) (b2 : B2 ≤ w.heap.size) :
    Many (w.alloc (.cells #[v1, v2] 55)) w.heap.size 2 [v1, v2] [x1, x2] where
  lv := rfl
  lx := rfl
  lt := by simp
  cell := fun j hj => by
    match j, hj with
    | 0, _ => simp
    | 1, _ => simp
  rd := fun j hj => by
    rw [show (w.alloc (.cells #[v1, v2] 55)).heap.size = w.heap.size + 1 by simp]
    match j, hj with
    | 0, _ => exact rd_alloc h1 b1 _
    | 1, _ => exact rd_alloc h2 b2 _

section
variable {B1 B2 B3 : Nat} {w : World} {v1 v2 v3 : Value} {x1 x2 x3 : List Int}

end
end Go.Proofs.YtadkbcehhdcfaaaDoor

/- nat.Right (for the seats without layer 1's laws). -/
namespace Go.Proofs.YtadkbcehhdcfaaaDoor
set_option linter.unusedVariables false
set_option linter.unusedSimpArgs false
open Go.RowKit

/-- Are limbs right? -/
def rightB (xs : List Int) : Bool := decide ((tr xs).length = xs.length)

end Go.Proofs.YtadkbcehhdcfaaaDoor

/- Plain facts on long division: limbs in a window of a row, guesses of a quotient's limb, shifts. No program is named. -/
namespace Go.Proofs.YtadkbcehhdcfaaaDoor
set_option linter.unusedVariables false
set_option linter.unusedSimpArgs false

theorem win_getD (A U C : List Int) (j i : Nat) (hA : A.length = j) (hi : i < U.length) : (A ++ U ++ C).getD (j + i) 0 = U.getD i 0 := by
  subst hA
  simp only [List.getD, List.append_assoc]
  rw [List.getElem?_append_right (by omega), show A.length + i - A.length = i by omega, List.getElem?_append_left hi]

theorem win_set (A U C : List Int) (j i : Nat) (z : Int) (hA : A.length = j) (hi : i < U.length) : (A ++ U ++ C).set (j + i) z = A ++ U.set i z ++ C := by
  subst hA
  rw [List.append_assoc, List.set_append_right _ _ (by omega), show A.length + i - A.length = i by omega, List.set_append_left _ _ hi, List.append_assoc]

/-- One step of: u less f times b. -/
theorem take_step (us ys : List Int) (i : Nat) (f c b V p t z b' : Int) (hi : i < us.length) (hy : i < ys.length) (h : val us - (c + b) * pw i = V - f * val (ys.take i)) (hp : p = ys.getD i 0 * f + c)
    (ht : us.getD i 0 - p % 4294967296 - b = z - b' * 4294967296) :
    val (us.set i z) - (p / 4294967296 + b') * pw (i + 1) = V - f * val (ys.take (i + 1)) := by
  have hd : 4294967296 * (p / 4294967296) + p % 4294967296 = p := Int.mul_ediv_add_emod p 4294967296
  rw [val_set _ _ _ hi, val_take_succ ys i hy, pw_succ]
  generalize p / 4294967296 = q at *
  generalize p % 4294967296 = r at *
  have k1 := congrArg (fun u => u * pw i) (hd.trans hp)
  have k2 := congrArg (fun u => u * pw i) ht
  simp only [Int.add_mul, Int.sub_mul, Int.mul_add, Int.mul_assoc, Int.mul_comm, Int.mul_left_comm] at *
  omega

theorem take_end (us : List Int) (n : Nat) (c b V z β : Int) (hn : n < us.length) (h : val us - (c + b) * pw n = V) (ht : us.getD n 0 - c - b = z - β * 4294967296) :
    val (us.set n z) - β * pw (n + 1) = V := by
  rw [val_set _ _ _ hn, pw_succ]
  have k2 := congrArg (fun u => u * pw n) ht
  simp only [Int.add_mul, Int.sub_mul, Int.mul_add, Int.mul_assoc, Int.mul_comm, Int.mul_left_comm] at *
  omega

/-- One step of: u and b together. -/
theorem back_step (us ys : List Int) (i : Nat) (c V t : Int) (hi : i < us.length) (hy : i < ys.length) (h : val us + c * pw i = V + val (ys.take i)) (ht : t = us.getD i 0 + ys.getD i 0 + c) :
    val (us.set i (t % 4294967296)) + t / 4294967296 * pw (i + 1) = V + val (ys.take (i + 1)) := by
  have hd : 4294967296 * (t / 4294967296) + t % 4294967296 = t := Int.mul_ediv_add_emod t 4294967296
  rw [val_set _ _ _ hi, val_take_succ ys i hy, pw_succ]
  generalize t / 4294967296 = q at *
  generalize t % 4294967296 = r at *
  have k1 := congrArg (fun u => u * pw i) (hd.trans ht)
  simp only [Int.add_mul, Int.sub_mul, Int.mul_add, Int.mul_assoc, Int.mul_comm, Int.mul_left_comm] at *
  omega

theorem back_end (us : List Int) (n : Nat) (c V t : Int) (hn : n < us.length) (h : val us + c * pw n = V) (ht : t = us.getD n 0 + c) :
    val (us.set n (t % 4294967296)) + t / 4294967296 * pw (n + 1) = V := by
  have hd : 4294967296 * (t / 4294967296) + t % 4294967296 = t := Int.mul_ediv_add_emod t 4294967296
  rw [val_set _ _ _ hn, pw_succ]
  generalize t / 4294967296 = q at *
  generalize t % 4294967296 = r at *
  have k1 := congrArg (fun u => u * pw n) (hd.trans ht)
  simp only [Int.add_mul, Int.sub_mul, Int.mul_add, Int.mul_assoc, Int.mul_comm, Int.mul_left_comm] at *
  omega

/-- A guess from the top limbs: b = d P + l, u = t P + k, both rests below P. Q is the quotient. -/
theorem guess_low (u b d l t k P Q g : Int) (hP : 0 < P) (hb : b = d * P + l) (hl : 0 ≤ l) (hu : u = t * P + k) (hk : k < P) (hQ : Q * b ≤ u) (hQ0 : 0 ≤ Q) (hg : t < g * d) (hd : 0 < d) : Q < g := by
  have h1 : Q * d * P ≤ u := by
    have : Q * b = Q * d * P + Q * l := by rw [hb, Int.mul_add, Int.mul_assoc]
    have : 0 ≤ Q * l := Int.mul_nonneg hQ0 hl
    omega
  have h2 : Q * d < t + 1 := by
    have h3 : Q * d * P < (t + 1) * P := by rw [Int.add_mul, Int.one_mul]; omega
    exact Int.lt_of_mul_lt_mul_right h3 (Int.le_of_lt hP)
  exact Int.lt_of_mul_lt_mul_right (show Q * d < g * d by omega) (Int.le_of_lt hd)

theorem guess_high (u b d l t k P Q g : Int) (hP : 0 < P) (hb : b = d * P + l) (hl : 0 ≤ l) (hlP : l < P) (hu : u = t * P + k) (hk : 0 ≤ k) (hQ : u < (Q + 1) * b) (hg : g * d ≤ t) (hg1 : g ≤ 4294967295) (hg0 : 0 ≤ g) (hd : 4294967296 ≤ d) : g ≤ Q + 1 := by
  have hbp : 0 < b := by
    have : 0 < d * P := Int.mul_pos (by omega) hP
    omega
  have h1 : g * d * P ≤ t * P := Int.mul_le_mul_of_nonneg_right hg (Int.le_of_lt hP)
  have h2 : g * l ≤ 4294967295 * P := Int.mul_le_mul hg1 (Int.le_of_lt hlP) hl (by omega)
  have h3 : 4294967296 * P ≤ d * P := Int.mul_le_mul_of_nonneg_right hd (Int.le_of_lt hP)
  have e1 : (g - 1) * b = g * d * P + g * l - (d * P + l) := by rw [Int.sub_mul, Int.one_mul, hb, Int.mul_add, Int.mul_assoc]
  have h4 : (g - 1) * b < (Q + 1) * b := by omega
  have h5 : g - 1 < Q + 1 := Int.lt_of_mul_lt_mul_right h4 (Int.le_of_lt hbp)
  omega

end Go.Proofs.YtadkbcehhdcfaaaDoor

/- nat.takeTimes and nat.addBack: in a window of a row of limbs, f times b taken away, and b added. -/
namespace Go.Proofs.YtadkbcehhdcfaaaDoor
set_option linter.unusedVariables false
set_option linter.unusedSimpArgs false
open Go.RowKit

theorem Kept2.cell {w w' : World} {B b : Nat} (h : Kept2 w w' B none) (hb : b < w.heap.size) (hne : b ≠ B) (o : Nat) : w'.cell? ⟨b, o, none⟩ = w.cell? ⟨b, o, none⟩ :=
  World.cell?_of_block (w := w) (h.block b hb hne (fun e => by cases e))

/-- A row of the call's own that holds limbs A, then U, then C; and limbs ys of another block. -/
structure Win (base g j n L c gb ob : Nat) (w : World) (A U C ys : List Int) : Prop where
  lA : A.length = j
  lU : U.length = n + 1
  lL : (A ++ U ++ C).length = L
  own : Own base w (.slice (some ⟨g, 0, none⟩) L c) (A ++ U ++ C)
  ne : gb ≠ g
  lt : gb < w.heap.size
  ly : lim ys
  lys : ys.length = n
  cell : ∀ i, i < n → w.cell? ⟨gb, ob + i, none⟩ = some (.int .u32 (ys.getD i 0))

section
variable {base g j n L c gb ob : Nat} {w w' : World} {A U C ys : List Int}

theorem Win.at (h : Win base g j n L c gb ob w A U C ys) (i : Nat) (hi : i ≤ n) : w.cell? ⟨g, j + i, none⟩ = some (.int .u32 (U.getD i 0)) := by
  have e := h.own.cellAt h.lL (j + i) (by have := h.lL; have := h.lA; have := h.lU; simp at *; omega)
  rw [win_getD A U C j i h.lA (by rw [h.lU]; omega)] at e
  exact e
theorem Win.free (h : Win base g j n L c gb ob w A U C ys) (i : Nat) : w.frozen? ⟨g, j + i, none⟩ = false := h.own.frozenAt h.lL (j + i)
theorem Win.limU (h : Win base g j n L c gb ob w A U C ys) : lim U := (lim_append.1 (lim_append.1 h.own.lim).1).2
theorem Win.set (h : Win base g j n L c gb ob w A U C ys) (i : Nat) (hi : i ≤ n) (z : Int) (hz : 0 ≤ z ∧ z < 4294967296) : Win base g j n L c gb ob (w.setCell ⟨g, j + i, none⟩ (.int .u32 z)) A (U.set i z) C ys := by
  have e := h.own.stored h.lL (j + i) z hz
  rw [win_set A U C j i z h.lA (by rw [h.lU]; omega)] at e
  refine ⟨h.lA, by rw [List.length_set]; exact h.lU, by have := h.lL; simp at *; exact this, e, h.ne, by simp; exact h.lt, h.ly, h.lys, fun k hk => ?_⟩
  rw [← h.cell k hk]
  exact (Kept2.setCell (Kept2.refl w g none) (p := ⟨g, j + i, none⟩) (Or.inl rfl) _).cell h.lt h.ne _
end

theorem and_mask (x : Int) (h0 : 0 ≤ x) (h1 : x < 18446744073709551616) : bits .and .u64 x 4294967295 = x % 4294967296 :=
  bits_mask .u64 64 (by decide) (fun n a b => by rw [IntKind.wrap_u64]; omega) 32 (by decide) x h0 (by omega)

theorem take_word (V C Y : Int) (hV : 0 ≤ V ∧ V < 4294967296) (hC : 0 ≤ C ∧ C < 4294967296) (hY : 0 ≤ Y ∧ Y ≤ 1) :
    ∃ T z c', IntKind.u64.wrap (IntKind.u64.wrap (V - C) - Y) = T ∧ 0 ≤ T ∧ T < 18446744073709551616 ∧ T % 4294967296 = z ∧ T / 9223372036854775808 = c' ∧ 0 ≤ c' ∧ c' ≤ 1 ∧ (0 ≤ z ∧ z < 4294967296) ∧ V - C - Y = z - c' * 4294967296 := by
  refine ⟨_, _, _, rfl, ?_, ?_, rfl, rfl, ?_, ?_, ?_, ?_⟩
  all_goals (simp only [IntKind.wrap_u64]; omega)

end Go.Proofs.YtadkbcehhdcfaaaDoor

/- nat.guessLimb: what a quotient's limb is to be, or 1 more; nat.quotientLimb: the limb, and what is left in the window. -/
namespace Go.Proofs.YtadkbcehhdcfaaaDoor
set_option linter.unusedVariables false
set_option linter.unusedSimpArgs false
open Go.RowKit

theorem quo_top (u b d l t k P Q : Int) (hP : 0 < P) (hb : b = d * P + l) (hl : 0 ≤ l) (hu : u = t * P + k) (hk : k < P) (hQ : Q * b ≤ u) (hQ0 : 0 ≤ Q) : Q * d ≤ t := by
  have h1 : Q * d * P ≤ u := by
    have : Q * b = Q * d * P + Q * l := by rw [hb, Int.mul_add, Int.mul_assoc]
    have : 0 ≤ Q * l := Int.mul_nonneg hQ0 hl
    omega
  have h3 : Q * d * P < (t + 1) * P := by rw [Int.add_mul, Int.one_mul]; omega
  have := Int.lt_of_mul_lt_mul_right h3 (Int.le_of_lt hP)
  omega

theorem g_exit (top second u0 head G R : Int) (h : G * top + R = head) (ht : G * second ≤ R * 4294967296 + u0) : G * (top * 4294967296 + second) ≤ head * 4294967296 + u0 := by
  rw [← h, Int.mul_add, Int.add_mul, ← Int.mul_assoc]; omega

theorem g_dec (top second u0 head G R Q : Int) (h : G * top + R = head) (ht : R * 4294967296 + u0 < G * second) (hQ : Q * (top * 4294967296 + second) ≤ head * 4294967296 + u0) (hd : 0 < top * 4294967296 + second) : Q < G := by
  have h1 : head * 4294967296 + u0 < G * (top * 4294967296 + second) := by
    rw [← h, Int.mul_add, Int.add_mul, ← Int.mul_assoc]; omega
  exact Int.lt_of_mul_lt_mul_right (show Q * (top * 4294967296 + second) < G * (top * 4294967296 + second) by omega) (Int.le_of_lt hd)

theorem g_break (top second u0 head G R : Int) (h : G * top + R = head) (hR : 4294967296 ≤ R) (hh : head ≤ top * 4294967296 + 4294967295) (ht : 0 < top) (hs : 0 ≤ second ∧ second < 4294967296) (h0 : 0 ≤ u0) (hG : 0 ≤ G) : G ≤ 4294967295 ∧ G * (top * 4294967296 + second) ≤ head * 4294967296 + u0 := by
  have h1 : G ≤ 4294967295 := by
    by_cases hg : G ≤ 4294967295
    · exact hg
    · have : 4294967296 * top ≤ G * top := Int.mul_le_mul_of_nonneg_right (by omega) (Int.le_of_lt ht)
      omega
  refine ⟨h1, g_exit top second u0 head G R h ?_⟩
  have h2 := (mul_bound ⟨hG, (by omega : G < 4294967296)⟩ hs).2
  omega

theorem g_first (top second u0 head Q : Int) (hQ : Q * (top * 4294967296 + second) ≤ head * 4294967296 + u0) (hQ0 : 0 ≤ Q) (hs : 0 ≤ second) (hu : u0 < 4294967296) (ht : 0 < top) : Q ≤ head / top := by
  refine Int.le_ediv_of_mul_le ht ?_
  have h1 : 0 ≤ Q * second := Int.mul_nonneg hQ0 hs
  rw [Int.mul_add, ← Int.mul_assoc] at hQ
  omega

/-- The top limbs of the window and of the divisor. -/
theorem top_two (ys : List Int) (m : Nat) (h : ys.length = m + 2) : val ys = (ys.getD (m + 1) 0 * 4294967296 + ys.getD m 0) * pw m + val (ys.take m) := by
  have e : ys = ys.take (m + 1 + 1) := by rw [List.take_of_length_le (by omega)]
  have h1 := val_take_succ ys (m + 1) (by omega)
  have h2 := val_take_succ ys m (by omega)
  rw [← e] at h1
  rw [h1, h2, pw_succ]
  generalize ys.getD m 0 = a
  generalize ys.getD (m + 1) 0 = b
  rw [Int.add_mul, Int.mul_assoc b]
  omega
theorem top_three (us : List Int) (m : Nat) (h : us.length = m + 2 + 1) : val us = ((us.getD (m + 2) 0 * 4294967296 + us.getD (m + 1) 0) * 4294967296 + us.getD m 0) * pw m + val (us.take m) := by
  have e : us = us.take (m + 2 + 1) := by rw [List.take_of_length_le (by omega)]
  have h0 := val_take_succ us (m + 2) (by omega)
  have h1 := val_take_succ us (m + 1) (by omega)
  have h2 := val_take_succ us m (by omega)
  rw [← e] at h0
  rw [h0, h1, h2, show m + 2 = (m + 1) + 1 by omega]
  simp only [pw_succ]
  generalize us.getD m 0 = a
  generalize us.getD (m + 1) 0 = b
  generalize us.getD (m + 1 + 1) 0 = c
  have e1 : ((c * 4294967296 + b) * 4294967296 + a) * pw m = c * (4294967296 * (4294967296 * pw m)) + b * (4294967296 * pw m) + a * pw m := by
    simp only [Int.add_mul, Int.mul_assoc]
  omega

end Go.Proofs.YtadkbcehhdcfaaaDoor

/- nat.shiftedUp: limbs shifted into new memory; nat.shiftDown: limbs shifted back in place. -/
namespace Go.Proofs.YtadkbcehhdcfaaaDoor
set_option linter.unusedVariables false
set_option linter.unusedSimpArgs false
open Go.RowKit

theorem or_shift (s : Nat) (x k : Int) (hs : s ≤ 31) (hx : 0 ≤ x ∧ x < 4294967296) (hk : 0 ≤ k ∧ k < 2 ^ s) : bits .or .u64 (x * 2 ^ s) k = x * 2 ^ s + k := by
  have h1 : (2 : Int) ^ s ≤ 2147483648 := by
    have h : (2 : Nat) ^ s ≤ 2 ^ 31 := Nat.pow_le_pow_right (by omega) hs
    have e : ((2 ^ s : Nat) : Int) = (2 : Int) ^ s := by simp
    rw [← e]; omega
  have h0 : (0 : Int) < 2 ^ s := Int.pow_pos (by omega)
  have h2 : x * 2 ^ s ≤ 4294967295 * 2147483648 := Int.mul_le_mul (by omega) h1 (by omega) (by omega)
  have h3 : 0 ≤ x * 2 ^ s := Int.mul_nonneg hx.1 (by omega)
  exact bits_join .u64 64 (by decide) (fun n a b => by rw [IntKind.wrap_u64]; omega) s _ _ h3 (by exact Int.mul_emod_left _ _) (by omega) hk.1 hk.2 (by omega)

theorem up_step (zs xs : List Int) (i : Nat) (c k t : Int) (hi : i < zs.length) (hx : i < xs.length) (h0 : zs.getD i 0 = 0) (h : val zs + k * pw i = val (xs.take i) * c) (ht : t = xs.getD i 0 * c + k) :
    val (zs.set i (t % 4294967296)) + t / 4294967296 * pw (i + 1) = val (xs.take (i + 1)) * c := by
  have hd : 4294967296 * (t / 4294967296) + t % 4294967296 = t := Int.mul_ediv_add_emod t 4294967296
  rw [val_set _ _ _ hi, h0, val_take_succ xs i hx, pw_succ]
  generalize t / 4294967296 = q at *
  generalize t % 4294967296 = r at *
  have k1 := congrArg (fun u => u * pw i) (hd.trans ht)
  simp only [Int.add_mul, Int.sub_mul, Int.mul_add, Int.mul_assoc, Int.mul_comm, Int.mul_left_comm, Int.sub_zero] at *
  omega

/-- One step of a shift down: c d is a limb's size. -/
theorem down_step (xs vs : List Int) (j : Nat) (c d top t z : Int) (hc : 0 < c) (hcd : c * d = 4294967296) (hj : j < xs.length) (hl : vs.length = xs.length) (ht : vs.take (j + 1) = xs.take (j + 1)) (lx : lim xs)
    (h : val (vs.drop (j + 1)) = val (xs.drop (j + 1)) / c) (htop : top = val (xs.drop (j + 1)) % 4294967296) (he : t = top * 4294967296 + vs.getD j 0) (hz : z = t / c % 4294967296) :
    (vs.set j z).take j = xs.take j ∧ val ((vs.set j z).drop j) = val (xs.drop j) / c ∧ vs.getD j 0 = val (xs.drop j) % 4294967296 ∧ (0 ≤ z ∧ z < 4294967296) := by
  have e1 : xs.drop j = xs.getD j 0 :: xs.drop (j + 1) := by rw [List.drop_eq_getElem_cons hj]; simp [List.getD, hj]
  have hj2 : j < vs.length := by omega
  have e2 : (vs.set j z).drop j = z :: vs.drop (j + 1) := by
    rw [List.drop_eq_getElem_cons (by simpa using hj2)]
    simp [List.drop_set]
  have e3 : vs.getD j 0 = xs.getD j 0 := by
    have h1 : (vs.take (j + 1)).getD j 0 = vs.getD j 0 := by simp only [List.getD, List.getElem?_take]; rw [if_pos (by omega)]
    have h2 : (xs.take (j + 1)).getD j 0 = xs.getD j 0 := by simp only [List.getD, List.getElem?_take]; rw [if_pos (by omega)]
    rw [← h1, ← h2, ht]
  have rx := lim_getD lx j
  refine ⟨?_, ?_, ?_, by omega⟩
  · have h1 : vs.take j = xs.take j := by
      have := congrArg (List.take j) ht
      rw [List.take_take, List.take_take] at this
      have e : min j (j + 1) = j := by omega
      rw [e] at this; exact this
    rw [List.take_set_of_le (Nat.le_refl _)]; exact h1
  · rw [e1, e2]
    simp only [val, h]
    rw [e3] at he
    generalize xs.getD j 0 = x at *
    generalize val (xs.drop (j + 1)) = X at *
    -- X = c q + r, top = c q2 + r
    have d1 : c * (X / c) + X % c = X := Int.mul_ediv_add_emod X c
    have r0 : 0 ≤ X % c := Int.emod_nonneg _ (by omega)
    have r1 : X % c < c := Int.emod_lt_of_pos _ hc
    have r2 : top % c = X % c := by rw [htop]; exact Int.emod_emod_of_dvd X ⟨d, hcd.symm⟩
    have d2 : c * (top / c) + top % c = top := Int.mul_ediv_add_emod top c
    rw [r2] at d2
    generalize X / c = q at *
    generalize X % c = r at *
    generalize top / c = q2 at *
    -- the two numbers divided
    have f1 : x + 4294967296 * X = (x + 4294967296 * r) + c * (4294967296 * q) := by rw [← d1, Int.mul_add, Int.mul_left_comm]; omega
    have f2 : t = (x + 4294967296 * r) + c * (4294967296 * q2) := by rw [he, ← d2, Int.mul_comm _ 4294967296, Int.mul_add, Int.mul_left_comm]; omega
    have f3 : (x + 4294967296 * r) / c < 4294967296 := Int.ediv_lt_of_lt_mul hc (by
      have : (r + 1) * 4294967296 ≤ c * 4294967296 := Int.mul_le_mul_of_nonneg_right (by omega) (by omega)
      rw [Int.mul_comm 4294967296 c]; omega)
    have f4 : 0 ≤ (x + 4294967296 * r) / c := Int.ediv_nonneg (by omega) (by omega)
    rw [f1, Int.add_mul_ediv_left _ _ (by omega), hz, f2, Int.add_mul_ediv_left _ _ (by omega), Int.add_mul_emod_self_left, Int.emod_eq_of_lt f4 f3]
  · rw [e1, e3]
    simp only [val]
    omega

theorem hide {p : Prop} (h : p) : Hid p := h

theorem two_pow_split (s : Nat) (hs : s ≤ 31) : ∃ d : Int, (2 : Int) ^ s * d = 4294967296 := by
  refine ⟨2 ^ (32 - s), ?_⟩
  rw [← Int.pow_add, show s + (32 - s) = 32 by omega]; rfl

end Go.Proofs.YtadkbcehhdcfaaaDoor

/- nat.Bits: how many bits a number has. -/
namespace Go.Proofs.YtadkbcehhdcfaaaDoor
set_option linter.unusedVariables false
set_option linter.unusedSimpArgs false
open Go.RowKit

def p2 (k : Nat) : Int := 2 ^ k
theorem p2_add (j k : Nat) : p2 (j + k) = p2 j * p2 k := by unfold p2; rw [Int.pow_add]
theorem p2_succ (k : Nat) : p2 (k + 1) = 2 * p2 k := by unfold p2; rw [Int.pow_succ, Int.mul_comm]
theorem p2_pos (k : Nat) : 0 < p2 k := by
  induction k with
  | zero => decide
  | succ k ih => rw [p2_succ]; omega
theorem p2_mono {j k : Nat} (h : j ≤ k) : p2 j ≤ p2 k := by
  induction h with
  | refl => exact Int.le_refl _
  | step _ ih => rw [p2_succ]; have := p2_pos j; omega
theorem pw_p2 (k : Nat) : pw k = p2 (32 * k) := by
  induction k with
  | zero => rfl
  | succ k ih =>
    rw [pw_succ, ih, show 32 * (k + 1) = 32 + 32 * k by omega, p2_add]
    rfl

/-- v has b bits. -/
def isBits (v : Int) (b : Nat) : Prop := (v = 0 ∧ b = 0) ∨ (1 ≤ b ∧ p2 (b - 1) ≤ v ∧ v < p2 b)

theorem isBits_le {v u : Int} {b c : Nat} (h : isBits v b) (k : isBits u c) (hv : v ≤ u) (h0 : 0 ≤ v) : b ≤ c := by
  rcases h with ⟨_, rfl⟩ | ⟨h1, h2, h3⟩
  · omega
  · rcases k with ⟨rfl, _⟩ | ⟨k1, k2, k3⟩
    · have := p2_pos (b - 1); omega
    · by_cases hbc : b ≤ c
      · exact hbc
      · have := p2_mono (j := c) (k := b - 1) (by omega)
        omega
theorem isBits_unique {v : Int} {b c : Nat} (h : isBits v b) (k : isBits v c) (h0 : 0 ≤ v) : b = c :=
  Nat.le_antisymm (isBits_le h k (Int.le_refl _) h0) (isBits_le k h (Int.le_refl _) h0)

theorem bitLen_is (x : Nat) (h : x < 4294967296) : isBits (x : Int) (Lib.bitLen x) := by
  by_cases h0 : x = 0
  · subst h0; exact Or.inl ⟨rfl, rfl⟩
  · right
    have h64 : x < 2 ^ 64 := Nat.lt_of_lt_of_le h (by decide)
    obtain ⟨h1, h2, h3⟩ := Lib.bitLenAux_bounds 64 x h64 h0
    have e : Lib.bitLenAux 64 x = Lib.bitLen x := rfl
    rw [e] at h1 h2 h3
    refine ⟨h1, ?_, ?_⟩
    · unfold p2
      have : ((2 ^ (Lib.bitLen x - 1) : Nat) : Int) ≤ (x : Int) := by exact_mod_cast h2
      simpa using this
    · unfold p2
      have : (x : Int) < ((2 ^ Lib.bitLen x : Nat) : Int) := by exact_mod_cast h3
      simpa using this

theorem isBits_top (xs : List Int) (k t : Nat) (hl : lim xs) (hk : xs.length = k + 1) (h0 : ¬ xs.getD k 0 = 0) (ht : isBits (xs.getD k 0) t) : isBits (val xs) (32 * k + t) ∧ t ≤ 32 := by
  have e : xs = xs.take (k + 1) := by rw [← hk, List.take_length]
  have h1 : val xs = val (xs.take k) + xs.getD k 0 * pw k := by rw [← val_take_succ xs k (by omega), ← e]
  have h2 := val_bound (lim_take hl k)
  have lk : (xs.take k).length = k := by simp; omega
  rw [lk] at h2
  have h3 := lim_getD hl k
  have hp := pw_pos k
  rcases ht with ⟨h, _⟩ | ⟨ht1, ht2, ht3⟩
  · exact absurd h h0
  · constructor
    · right
      refine ⟨by omega, ?_, ?_⟩
      · have : p2 (t - 1) * pw k ≤ xs.getD k 0 * pw k := Int.mul_le_mul_of_nonneg_right ht2 (Int.le_of_lt hp)
        rw [show 32 * k + t - 1 = (t - 1) + 32 * k by omega, p2_add, ← pw_p2, h1]
        omega
      · have : (xs.getD k 0 + 1) * pw k ≤ p2 t * pw k := Int.mul_le_mul_of_nonneg_right (by omega) (Int.le_of_lt hp)
        rw [Int.add_mul, Int.one_mul] at this
        rw [show 32 * k + t = t + 32 * k by omega, p2_add, ← pw_p2, h1]
        omega
    · by_cases h : t ≤ 32
      · exact h
      · have := p2_mono (j := 32) (k := t - 1) (by omega)
        have e32 : p2 32 = 4294967296 := by decide
        omega

end Go.Proofs.YtadkbcehhdcfaaaDoor

/- Plain facts on long division: one limb of the quotient after the other. -/
namespace Go.Proofs.YtadkbcehhdcfaaaDoor
set_option linter.unusedVariables false
set_option linter.unusedSimpArgs false

theorem can_len_le2 {xs ys : List Int} (hx : can xs) (hy : can ys) (h : val ys ≤ val xs) : ys.length ≤ xs.length := by
  by_cases hl : ys.length ≤ xs.length
  · exact hl
  · have := can_len_lt hx hy (by omega); omega

theorem win_split (vs : List Int) (i n L : Nat) (hl : vs.length = L) (hi : i + n + 1 ≤ L) : ∃ A U C, vs = A ++ U ++ C ∧ A.length = i ∧ U.length = n + 1 := by
  refine ⟨vs.take i, (vs.drop i).take (n + 1), (vs.drop i).drop (n + 1), ?_, by simp; omega, by simp; omega⟩
  rw [List.append_assoc, List.take_append_drop, List.take_append_drop]

theorem win_val (A U C : List Int) : val (A ++ U ++ C) = val A + pw A.length * (val U + pw U.length * val C) := by
  rw [List.append_assoc, val_append, val_append]

theorem win_drop (A U C : List Int) (i : Nat) (h : A.length = i) : (A ++ U ++ C).drop i = U ++ C := by
  subst h; rw [List.append_assoc, List.drop_left]

theorem win_top (A U C : List Int) (i n : Nat) (b : Int) (hA : A.length = i) (hU : U.length = n + 1) (hl : lim (A ++ U ++ C)) (hb : val ((A ++ U ++ C).drop (i + 1)) < b) (hp : b ≤ pw n) : val C = 0 ∧ val U < 4294967296 * b := by
  have lU : lim U := (lim_append.1 (lim_append.1 hl).1).2
  have lC : lim C := (lim_append.1 hl).2
  cases U with
  | nil => simp at hU
  | cons x V =>
    have e : (A ++ x :: V ++ C).drop (i + 1) = V ++ C := by
      rw [← List.drop_drop, win_drop A (x :: V) C i hA]; rfl
    rw [e, val_append] at hb
    have lV : V.length = n := by simpa using hU
    rw [lV] at hb
    rw [lim_cons] at lU
    have hV := (val_bound lU.2).1
    have hC := (val_bound lC).1
    have hz : val C = 0 := by
      by_cases h : val C = 0
      · exact h
      · have : pw n * 1 ≤ pw n * val C := Int.mul_le_mul_of_nonneg_left (by omega) (Int.le_of_lt (pw_pos n))
        omega
    refine ⟨hz, ?_⟩
    rw [hz] at hb
    simp only [val]
    omega

theorem long_next (A U U' C : List Int) (i : Nat) (b V0 : Int) (qs : List Int) (hA : A.length = i) (hU : U'.length = U.length) (hC : val C = 0) (hb : 0 < b) (hv : val U' = val U % b) (hq : i < qs.length) (hq0 : qs.getD i 0 = 0)
    (h : V0 = val (A ++ U ++ C) + val qs * b) :
    V0 = val (A ++ U' ++ C) + val (qs.set i (val U / b)) * b ∧ val ((A ++ U' ++ C).drop i) < b := by
  have hd : b * (val U / b) + val U % b = val U := Int.mul_ediv_add_emod _ _
  constructor
  · rw [h, win_val, win_val, hC, hv, val_set _ _ _ hq, hq0, hA]
    generalize val U / b = q at *
    generalize val U % b = r at *
    rw [← hd]
    simp only [Int.add_mul, Int.sub_mul, Int.mul_add, Int.mul_assoc, Int.mul_comm, Int.mul_left_comm, Int.sub_zero, Int.mul_zero, Int.add_zero]
    omega
  · rw [win_drop A U' C i hA, val_append, hC, hv]
    have := Int.emod_lt_of_pos (val U) hb
    simp; exact this

/-- The divisor's top limb, shifted. -/
theorem top_shift (t : Int) (b s : Nat) (h : isBits t b) (h0 : ¬ t = 0) (hb : b ≤ 32) (hs : s = 32 - b) : 2147483648 ≤ t * 2 ^ s ∧ (t + 1) * 2 ^ s ≤ 4294967296 := by
  rcases h with ⟨h, _⟩ | ⟨h1, h2, h3⟩
  · exact absurd h h0
  · have e : (2 : Int) ^ s = p2 s := rfl
    rw [e]
    have hp := p2_pos s
    have a1 : p2 (b - 1) * p2 s ≤ t * p2 s := Int.mul_le_mul_of_nonneg_right h2 (Int.le_of_lt hp)
    have a2 : (t + 1) * p2 s ≤ p2 b * p2 s := Int.mul_le_mul_of_nonneg_right (by omega) (Int.le_of_lt hp)
    rw [← p2_add] at a1 a2
    have e1 : b - 1 + s = 31 := by omega
    have e2 : b + s = 32 := by omega
    rw [e1] at a1
    rw [e2] at a2
    have k1 : p2 31 = 2147483648 := by decide
    have k2 : p2 32 = 4294967296 := by decide
    omega

/-- The divisor, shifted: its limbs but the last, which is 0. -/
theorem shifted_divisor (ys zs : List Int) (m : Nat) (c : Int) (hc : 0 < c) (ly : lim ys) (lz : lim zs) (hy : ys.length = m + 2) (hz : zs.length = m + 2 + 1) (hv : val zs = val ys * c) (h1 : 2147483648 ≤ ys.getD (m + 1) 0 * c) (h2 : (ys.getD (m + 1) 0 + 1) * c ≤ 4294967296) :
    val (zs.take (m + 2)) = val ys * c ∧ 2147483648 ≤ (zs.take (m + 2)).getD (m + 1) 0 := by
  have e : ys = ys.take (m + 1 + 1) := by rw [List.take_of_length_le (by omega)]
  have ez : zs = zs.take (m + 2 + 1) := by rw [List.take_of_length_le (by omega)]
  have v1 := val_take_succ ys (m + 1) (by omega)
  rw [← e] at v1
  have v2 := val_take_succ zs (m + 2) (by omega)
  rw [← ez] at v2
  have v3 := val_take_succ zs (m + 1) (by omega)
  have b1 := val_bound (lim_take ly (m + 1))
  have b3 := val_bound (lim_take lz (m + 1))
  have l1 : (ys.take (m + 1)).length = m + 1 := by simp; omega
  have l3 : (zs.take (m + 1)).length = m + 1 := by simp; omega
  rw [l1] at b1
  rw [l3] at b3
  have bz := lim_getD lz (m + 2)
  have bt := (val_bound (lim_take lz (m + 2))).1
  have hp := pw_pos (m + 1)
  have ep : pw (m + 2) = 4294967296 * pw (m + 1) := pw_succ (m + 1)
  -- the whole is below pw (m + 2)
  have u1 : val ys * c < pw (m + 2) := by
    have a1 : val ys < (ys.getD (m + 1) 0 + 1) * pw (m + 1) := by rw [Int.add_mul, Int.one_mul]; omega
    have a2 : val ys * c < (ys.getD (m + 1) 0 + 1) * pw (m + 1) * c := Int.mul_lt_mul_of_pos_right a1 hc
    have a3 : (ys.getD (m + 1) 0 + 1) * c * pw (m + 1) ≤ 4294967296 * pw (m + 1) := Int.mul_le_mul_of_nonneg_right h2 (Int.le_of_lt hp)
    rw [Int.mul_right_comm] at a2
    omega
  have z0 : zs.getD (m + 2) 0 = 0 := by
    by_cases h : zs.getD (m + 2) 0 = 0
    · exact h
    · have : 1 * pw (m + 2) ≤ zs.getD (m + 2) 0 * pw (m + 2) := Int.mul_le_mul_of_nonneg_right (by omega) (Int.le_of_lt (pw_pos _))
      omega
  rw [z0] at v2
  have hval : val (zs.take (m + 2)) = val ys * c := by omega
  refine ⟨hval, ?_⟩
  have eg : (zs.take (m + 2)).getD (m + 1) 0 = zs.getD (m + 1) 0 := by simp only [List.getD, List.getElem?_take]; rw [if_pos (by omega)]
  rw [eg]
  -- from below
  have d1 : (2147483648 : Int) * pw (m + 1) ≤ val ys * c := by
    have a1 : ys.getD (m + 1) 0 * pw (m + 1) ≤ val ys := by omega
    have a2 : ys.getD (m + 1) 0 * pw (m + 1) * c ≤ val ys * c := Int.mul_le_mul_of_nonneg_right a1 (Int.le_of_lt hc)
    have a3 : 2147483648 * pw (m + 1) ≤ ys.getD (m + 1) 0 * c * pw (m + 1) := Int.mul_le_mul_of_nonneg_right h1 (Int.le_of_lt hp)
    rw [Int.mul_right_comm] at a2
    omega
  have v3' : val (zs.take (m + 2)) = val (zs.take (m + 1)) + zs.getD (m + 1) 0 * pw (m + 1) := v3
  have d2 : 2147483648 * pw (m + 1) < (zs.getD (m + 1) 0 + 1) * pw (m + 1) := by rw [Int.add_mul, Int.one_mul]; omega
  have := Int.lt_of_mul_lt_mul_right d2 (Int.le_of_lt hp)
  omega

/-- Ahead of the first limb: the top of the shifted dividend is below the shifted divisor. -/
theorem long_start (xs ys vs : List Int) (n L : Nat) (c : Int) (hc : 0 < c) (lx : lim xs) (lv : lim vs) (cy : can ys) (hx : xs.length = L) (hy : ys.length = n) (hn : 0 < n) (hnL : n ≤ L) (hv : vs.length = L + 1) (hval : val vs = val xs * c) :
    val (vs.drop (L + 1 - n)) < val ys * c := by
  have h1 := val_split vs (L + 1 - n) (by omega)
  have h2 := (val_bound (lim_take lv (L + 1 - n))).1
  have h3 := (val_bound lx).2
  rw [hx] at h3
  have h4 := can_low cy (by omega)
  rw [hy] at h4
  have hp := pw_pos (L + 1 - n)
  have e : pw L = pw (L + 1 - n) * pw (n - 1) := by rw [← pw_add]; congr 1; omega
  have h5 : val xs * c < pw L * c := Int.mul_lt_mul_of_pos_right h3 hc
  have h6 : pw (n - 1) * c ≤ val ys * c := Int.mul_le_mul_of_nonneg_right h4 (Int.le_of_lt hc)
  have h7 : pw (L + 1 - n) * val (vs.drop (L + 1 - n)) < pw (L + 1 - n) * (pw (n - 1) * c) := by
    rw [← Int.mul_assoc, ← e]; omega
  have := Int.lt_of_mul_lt_mul_left h7 (Int.le_of_lt hp)
  omega

theorem long_end (X Y V q c : Int) (hc : 0 < c) (h : X * c = V + q * (Y * c)) : V / c = X - q * Y ∧ (V < Y * c → X - q * Y < Y) := by
  have e : V = (X - q * Y) * c := by rw [Int.sub_mul, Int.mul_assoc]; omega
  refine ⟨by rw [e]; exact Int.mul_ediv_cancel _ (by omega), fun h1 => ?_⟩
  rw [e] at h1
  exact Int.lt_of_mul_lt_mul_right h1 (Int.le_of_lt hc)
end Go.Proofs.YtadkbcehhdcfaaaDoor

/- (*divider).by where the divisor has two limbs or more, and no more than the number: long division. -/
namespace Go.Proofs.YtadkbcehhdcfaaaDoor
set_option linter.unusedVariables false
set_option linter.unusedSimpArgs false
open Go.RowKit

theorem Own.keep2 {base : Nat} {w w' : World} {v : Value} {xs : List Int} {B : Nat} (h : Own base w v xs) (k : Kept2 w w' B none) (hne : v.ownBlock ≠ some B) : Own base w' v xs := by
  obtain ⟨hl, h1, h | ⟨g, cap, cur, hv, hg, hh, r⟩⟩ := h
  · exact ⟨hl, h1, Or.inl h⟩
  · refine ⟨hl, h1, Or.inr ⟨g, cap, cur, hv, hg, ?_, r⟩⟩
    rw [k.block g (lt_of_block hh) (fun e => hne (by rw [hv, e]; rfl)) (fun e => by cases e)]
    exact hh
theorem Box.keep2 {w w' : World} {B b ty : Nat} {v : Value} (h : Box w b ty v) (k : Kept2 w w' B none) (hne : b ≠ B) : Box w' b ty v := by
  unfold Box
  rw [k.block b (lt_of_block h) hne (fun e => by cases e)]
  exact h
/-- What was kept but block g, which is new since, was kept of the earlier world. -/
theorem Kept2.new {a w w' : World} {B g : Nat} (h : Kept2 a w B none) (k : Kept2 w w' g none) (hg : a.heap.size ≤ g) : Kept2 a w' B none :=
  ⟨k.os.trans h.os, k.tape.trans h.tape, k.output.trans h.output, Nat.le_trans h.size k.size, fun i hi hB hr => (k.block i (Nat.lt_of_lt_of_le hi h.size) (by omega) hr).trans (h.block i hi hB hr)⟩
theorem Kept2.grow {a w w' : World} {B : Nat} (h : Kept2 a w B none) (k : Below w.heap.size w w') : Kept2 a w' B none :=
  ⟨k.os.trans h.os, k.tape.trans h.tape, k.output.trans h.output, Nat.le_trans h.size k.size, fun i hi hB hr => (k.block i (Nat.lt_of_lt_of_le hi h.size)).trans (h.block i hi hB hr)⟩
theorem Kept2.setNew {a w : World} {B g : Nat} (h : Kept2 a w B none) (hg : a.heap.size ≤ g) (o : Nat) (u : Value) : Kept2 a (w.setCell ⟨g, o, none⟩ u) B none :=
  h.new (Kept2.setCell (Kept2.refl w g none) (p := ⟨g, o, none⟩) (Or.inl rfl) u) hg

/-- What (*divider).by leaves of xs by ys, where nothing but its variable (block B) and a row r has turned; what is left lies in the row R or in a new one. -/
def Divides2 (base : Nat) (w : World) (B ty : Nat) (r R : Option Nat) (xs ys : List Int) (e : Ending) (w' : World) : Prop :=
  ∃ qs rs a c a2 c2, e = .returned (.slice a qs.length c) ∧ Own base w' (.slice a qs.length c) qs ∧ can qs ∧ can rs ∧ Box w' B ty (.slice a2 rs.length c2) ∧ Own base w' (.slice a2 rs.length c2) rs ∧ val xs = val qs * val ys + val rs ∧ val rs < val ys ∧ qs.length ≤ xs.length ∧ rs.length ≤ xs.length ∧ rs.length ≤ ys.length ∧ (∀ k, (Value.slice a2 rs.length c2).ownBlock = some k → some k = R ∨ w.heap.size ≤ k) ∧ Kept2 w w' B r

end Go.Proofs.YtadkbcehhdcfaaaDoor
