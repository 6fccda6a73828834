/- Maps of functions, keyed by characters, that a call makes: laid entry by entry, and looked up. -/
import Derived.Test.YtimfnalpmmkndaaGreatDoorJ1
import Derived.MapKept
import Derived.WideMake
import Derived.Test.YtimfnalpmmkndaaGreatDoorJ3
import Derived.Laws.AppendOwnNone
import Derived.Lib.SliceRun
import Derived.Lib.AppendZerosOnto
import Derived.Maps.AppendAt
namespace Go.Proofs.YtimfnalpmmkndaaGreatDoor
set_option linter.unusedVariables false
set_option linter.unusedSimpArgs false
open Go.RowKit

structure Kp (B : Nat) (w w' : World) : Prop where
 os : w'.os = w.os
 tape : w'.tape = w.tape
 output : w'.output = w.output
 size : w.heap.size ≤ w'.heap.size
 block : ∀ g, g < w.heap.size → g ≠ B → w'.heap[g]? = w.heap[g]?
theorem Kp.refl (B : Nat) (w : World) : Kp B w w := ⟨rfl, rfl, rfl, Nat.le_refl _, fun _ _ _ => rfl⟩
theorem Kp.trans {B : Nat} {a b c : World} (h : Kp B a b) (k : Kp B b c) : Kp B a c := ⟨k.os.trans h.os, k.tape.trans h.tape, k.output.trans h.output, Nat.le_trans h.size k.size, fun g hg hB => (k.block g (Nat.lt_of_lt_of_le hg h.size) hB).trans (h.block g hg hB)⟩
theorem Kp.of_below {B : Nat} {w w' : World} (h : Below w.heap.size w w') : Kp B w w' := ⟨h.os, h.tape, h.output, h.size, fun g hg _ => h.block g hg⟩
theorem Kp.below {B C : Nat} {w w' : World} (h : Kp B w w') (hC : C ≤ B) (hs : C ≤ w.heap.size) : Below C w w' := ⟨h.os, h.tape, h.output, h.size, fun g hg => h.block g (by omega) (by omega)⟩
theorem Kp.cell {B g o : Nat} {w w' : World} {v : Value} (h : Kp B w w') (hB : g ≠ B) (hc : w.cell? ⟨g, o, none⟩ = some v) : w'.cell? ⟨g, o, none⟩ = some v := by
 have hlt : g < w.heap.size := by
  rcases Nat.lt_or_ge g w.heap.size with h' | h'
  · exact h'
  · simp [World.cell?, Array.getElem?_eq_none h'] at hc
 rw [World.cell?_of_block (w := w) (h.block g hlt hB)]; exact hc
section
variable {P : Program} {mty kt et : TypeId} {w : World} {B : Nat} {l : List (Int × Value)} {k : Int} {v : Value}
end
def noT : ByteArray := ⟨#[]⟩
def full (s : ByteArray) : Bool := !decide (s = noT)
def memT (k : ByteArray) (ks : List ByteArray) : Bool := ks.any fun y => decide (y = k)
theorem memT_iff {k : ByteArray} {ks : List ByteArray} : memT k ks = true ↔ k ∈ ks := by
 unfold memT
 rw [List.any_eq_true]
 exact ⟨fun ⟨y, hy, e⟩ => by rw [← of_decide_eq_true e]; exact hy, fun h => ⟨k, h, by simp⟩⟩
theorem memT_no {k : ByteArray} {ks : List ByteArray} (h : k ∉ ks) : memT k ks = false := by
 cases e : memT k ks with
 | false => rfl
 | true => exact absurd (memT_iff.1 e) h
def takeF : List ByteArray → List ByteArray → Bool × List ByteArray
 | ks, [] => (true, ks)
 | ks, n :: l => if memT n ks then (false, ks) else takeF (ks ++ [n]) l
def SetIs (w : World) (B : Nat) (ks : List ByteArray) : Prop := ∃ E n, w.heap[B]? = some (.map E n) ∧ E.toList.map (fun x => (x.key, x.val)) = ks.map (fun k => (Value.string k, Value.agg #[]))
theorem SetIs.new (w : World) : SetIs (w.alloc (.map #[] 0)) w.heap.size [] := ⟨#[], 0, heap_alloc_new w _, rfl⟩
theorem SetIs.of_block {w w' : World} {B : Nat} {ks : List ByteArray} (h : SetIs w B ks) (k : w'.heap[B]? = w.heap[B]?) : SetIs w' B ks := by
 obtain ⟨E, n, h1, h2⟩ := h
 exact ⟨E, n, by rw [k]; exact h1, h2⟩
theorem SetIs.lt {w : World} {B : Nat} {ks : List ByteArray} (h : SetIs w B ks) : B < w.heap.size := by
 obtain ⟨E, n, h1, _⟩ := h
 exact lt_of_block h1
theorem SetIs.below {w w' : World} {B C : Nat} {ks : List ByteArray} (h : SetIs w B ks) (k : Below C w w') (hC : B < C) : SetIs w' B ks := h.of_block (k.block B hC)
theorem set_keys {E : List MapEntry} {ks : List ByteArray} (h : E.map (fun x => (x.key, x.val)) = ks.map (fun k => (Value.string k, Value.agg #[]))) : ∀ x ∈ E, ∃ k ∈ ks, x.key = .string k := by
 intro x hx
 have : (x.key, x.val) ∈ ks.map (fun k => (Value.string k, Value.agg #[])) := by rw [← h]; exact List.mem_map_of_mem hx
 obtain ⟨p, hp, e⟩ := List.mem_map.1 this
 exact ⟨p, hp, (Prod.mk.inj e).1.symm⟩
section
variable {P : Program} {mty kt et : TypeId} {w : World} {B : Nat} {ks : List ByteArray} {k : ByteArray}
theorem SetIs.put (hm : P.underlying mty = some (.map kt et)) (hk : P.underlying kt = some .string) (h : SetIs w B ks) (hne : k ∉ ks) :
    ∃ w', (Instr.mapUpdate mty (.map (some B)) (.string k) (.agg #[])).run P w = .ok () w' ∧ SetIs w' B (ks ++ [k]) ∧ Kp B w w' ∧ w'.heap.size = w.heap.size := by
 obtain ⟨E, n, hb, hE⟩ := h
 have hkeys := set_keys hE
 have hc : (Instr.checkKey false 10000 kt (.string k)).run P w = .ok () w := MapKept.run_checkKey (k := .string k) hk (by simp [MapKept.IsKey]) false 9999
 have hf : Instr.findNow .string (.string k) E.toList 0 = some none := by
  rcases MapKept.findNow_spec (d := .string) (k := .string k) (by simp [MapKept.IsKey]) E.toList 0 (fun x hx => by obtain ⟨p, _, e⟩ := hkeys x hx; rw [e]; simp [MapKept.IsKey]) with ⟨h1, _⟩ | ⟨j, e, h1, h2, h3⟩
  · exact h1
  · obtain ⟨p, hp, e1⟩ := hkeys e (List.mem_of_getElem? h2)
    rw [e1] at h3
    cases h3
    exact absurd hp hne
 refine ⟨{ w with heap := w.heap.setIfInBounds B (.map (E.push { key := .string k, val := .agg #[], born := n }) (n + 1)) }, ?_, ⟨E.push { key := .string k, val := .agg #[], born := n }, n + 1, ?_, ?_⟩, ⟨rfl, rfl, rfl, by simp, fun g hg hgB => ?_⟩, by simp⟩
 · simp [Instr.mapUpdate, run_underlying hm, MapKept.run_getObj_map hb, hc, MapKept.run_findKey hk hf, MapKept.run_setObj_map _ hb, Result.andThen]
 · rw [Array.getElem?_setIfInBounds]
   simp [lt_of_block hb]
 · simp [hE]
 · rw [Array.getElem?_setIfInBounds]
   rw [if_neg (Ne.symm hgB)]
theorem set_find {k : ByteArray} : ∀ (E : List MapEntry) (ks : List ByteArray) (i : Nat), E.map (fun x => (x.key, x.val)) = ks.map (fun k => (Value.string k, Value.agg #[])) → (Instr.findNow .string (.string k) E i = some none ∧ k ∉ ks) ∨ ∃ j, Instr.findNow .string (.string k) E i = some (some (j, .agg #[])) ∧ k ∈ ks
 | [], [], _, _ => Or.inl ⟨rfl, by simp⟩
 | [], _ :: _, _, h => by simp at h
 | _ :: _, [], _, h => by simp at h
 | x :: E, p :: l, i, h => by
  simp only [List.map_cons, List.cons.injEq, Prod.mk.injEq] at h
  obtain ⟨⟨h1, h2⟩, h3⟩ := h
  obtain ⟨r, hr, hrk⟩ := MapKept.sameNow_of_keys (d := .string) (a := .string k) (b := x.key) (by simp [MapKept.IsKey]) (by rw [h1]; simp [MapKept.IsKey])
  rw [h1] at hrk
  by_cases hp : p = k
  · have hrt : r = true := hrk.2 (by rw [hp])
    subst hrt
    exact Or.inr ⟨i, by simp [Instr.findNow, hr, h2], by simp [hp]⟩
  · have hrf : r = false := by
     cases r with
     | false => rfl
     | true => exact absurd (Value.string.inj (hrk.1 rfl)).symm hp
    subst hrf
    rcases set_find (k := k) E l (i + 1) h3 with ⟨g1, g2⟩ | ⟨j, g1, g2⟩
    · exact Or.inl ⟨by simp [Instr.findNow, hr, g1], by simp [g2]; exact fun e => hp e.symm⟩
    · exact Or.inr ⟨j, by simp [Instr.findNow, hr, g1], by simp [g2]⟩
theorem SetIs.has (hm : P.underlying mty = some (.map kt et)) (hk : P.underlying kt = some .string) (hz : (zeroValue et).run P w = .ok (.agg #[]) w) (h : SetIs w B ks) : (Instr.lookup mty (.map (some B)) (.string k) true).run P w = .ok (.tuple #[.agg #[], .bool (memT k ks)]) w := by
 obtain ⟨E, n, hb, hE⟩ := h
 have hc : (Instr.checkKey E.isEmpty 10000 kt (.string k)).run P w = .ok () w := MapKept.run_checkKey (k := .string k) hk (by simp [MapKept.IsKey]) _ 9999
 rcases set_find (k := k) E.toList ks 0 hE with ⟨g1, g2⟩ | ⟨j, g1, g2⟩
 · rw [memT_no g2]
   simp [Instr.lookup, run_underlying hm, MapKept.run_getObj_map hb, hc, MapKept.run_findKey hk g1, hz, Result.andThen]
 · rw [memT_iff.2 g2]
   simp [Instr.lookup, run_underlying hm, MapKept.run_getObj_map hb, hc, MapKept.run_findKey hk g1, Result.andThen]
end
def BoxA (w : World) (B ty : Nat) (xs : Array Value) : Prop := w.heap[B]? = some (.cells xs ty (0, 0))
section
variable {w w' : World} {B ty base : Nat} {xs : Array Value}
theorem boxA_new (w : World) (xs : Array Value) (ty : Nat) : BoxA (w.alloc (.cells xs ty)) w.heap.size ty xs := heap_alloc_new _ _
theorem BoxA.lt (h : BoxA w B ty xs) : B < w.heap.size := by
 unfold BoxA at h
 exact (Array.getElem?_eq_some_iff.1 h).1
theorem BoxA.below (h : BoxA w B ty xs) (hb : Below base w w') (hB : B < base) : BoxA w' B ty xs := by
 unfold BoxA at *
 rw [hb.block B hB]; exact h
theorem BoxA.cell (h : BoxA w B ty xs) (i : Nat) {v : Value} (hv : xs[i]? = some v) : w.cell? ⟨B, i, none⟩ = some v := by
 unfold BoxA at h
 simp [World.cell?, h, hv]
theorem BoxA.frozen (h : BoxA w B ty xs) (i : Nat) : w.frozen? ⟨B, i, none⟩ = false := by
 unfold BoxA at h
 simp [World.frozen?, h]
end
theorem BoxA.num {w : World} {B ty : Nat} {b : Bool} {a1 a2 : Option Addr} {n1 n2 c1 c2 : Nat} (h : BoxA w B ty #[.int .u8 1, .bool b, .slice a1 n1 c1, .slice a2 n2 c2, .int .i32 0, .slice none 0 0]) :
    w.cell? ⟨B, 0, none⟩ = some (.int .u8 1) ∧ w.cell? ⟨B, 1, none⟩ = some (.bool b) ∧ w.cell? ⟨B, 2, none⟩ = some (.slice a1 n1 c1) ∧ w.cell? ⟨B, 3, none⟩ = some (.slice a2 n2 c2) ∧ w.cell? ⟨B, 4, none⟩ = some (.int .i32 0) ∧ w.cell? ⟨B, 5, none⟩ = some (.slice none 0 0) :=
 ⟨h.cell 0 rfl, h.cell 1 rfl, h.cell 2 rfl, h.cell 3 rfl, h.cell 4 rfl, h.cell 5 rfl⟩

section
variable {w : World} {b : Bool} {a1 a2 : Option Addr} {n1 n2 c1 c2 : Nat}
set_option maxRecDepth 100000 in
set_option maxHeartbeats 1600000 in
theorem number_any :
    Calls Tryz.prog 61 #[.agg #[.bool b, .slice a1 n1 c1, .slice a2 n2 c2]] w fun e w' => e = .returned (.agg #[.int .u8 1, .bool b, .slice a1 n1 c1, .slice a2 n2 c2, .int .i32 0, .slice none 0 0]) ∧ Below w.heap.size w w' := by
 have hb := boxA_new (w.alloc (.cells #[.bool b, .slice a1 n1 c1, .slice a2 n2 c2] 110)) #[.int .u8 1, .bool b, .slice a1 n1 c1, .slice a2 n2 c2, .int .i32 0, .slice none 0 0] 113
 rw [World.size_alloc] at hb
 have g := ((Below.refl w.heap.size w).alloc (Nat.le_refl _) (.cells #[.bool b, .slice a1 n1 c1, .slice a2 n2 c2] 110)).alloc (by simp) (.cells #[.int .u8 1, .bool b, .slice a1 n1 c1, .slice a2 n2 c2, .int .i32 0, .slice none 0 0] 113)
 go_enter Tryz.func61, Tryz.ntmps61
 go_wp2
 obtain ⟨r0, r1, r2, r3, r4, r5⟩ := hb.num
 refine bodyPost_ret (v := .agg #[.int .u8 1, .bool b, .slice a1 n1 c1, .slice a2 n2 c2, .int .i32 0, .slice none 0 0]) (by simp [results, Tryz.results61, go_sem, r0, r1, r2, r3, r4, r5]) rfl ?_
 exact ⟨rfl, g⟩

set_option maxRecDepth 100000 in
set_option maxHeartbeats 1600000 in
theorem scalar_any :
    Calls Tryz.prog 60 #[.agg #[.int .u8 1, .bool b, .slice a1 n1 c1, .slice a2 n2 c2, .int .i32 0, .slice none 0 0]] w fun e w' => ∃ k, e = .returned (.agg #[.slice none 0 0, .slice (some ⟨k, 0, none⟩) 1 1]) ∧ w.heap.size ≤ k ∧ BoxA w' k 113 #[.int .u8 1, .bool b, .slice a1 n1 c1, .slice a2 n2 c2, .int .i32 0, .slice none 0 0] ∧ Below w.heap.size w w' := by
 have g1 := (Below.refl w.heap.size w).alloc (Nat.le_refl _) (.cells #[.int .u8 1, .bool b, .slice a1 n1 c1, .slice a2 n2 c2, .int .i32 0, .slice none 0 0] 113)
 have g2 := g1.alloc (by simp) (.cells #[.slice none 0 0, .slice (some ⟨w.heap.size + 1 + 1, 0, none⟩) 1 1] 29)
 have g3 := g2.alloc (by simp; omega) (.cells #[.int .u8 1, .bool b, .slice a1 n1 c1, .slice a2 n2 c2, .int .i32 0, .slice none 0 0] 113)
 have hk := boxA_new ((w.alloc (.cells #[.int .u8 1, .bool b, .slice a1 n1 c1, .slice a2 n2 c2, .int .i32 0, .slice none 0 0] 113)).alloc (.cells #[.slice none 0 0, .slice (some ⟨w.heap.size + 1 + 1, 0, none⟩) 1 1] 29)) #[.int .u8 1, .bool b, .slice a1 n1 c1, .slice a2 n2 c2, .int .i32 0, .slice none 0 0] 113
 rw [World.size_alloc, World.size_alloc] at hk
 have hb := boxA_new (w.alloc (.cells #[.int .u8 1, .bool b, .slice a1 n1 c1, .slice a2 n2 c2, .int .i32 0, .slice none 0 0] 113)) #[.slice none 0 0, .slice (some ⟨w.heap.size + 1 + 1, 0, none⟩) 1 1] 29
 have hb2 := hb.below (below_alloc _ (.cells #[.int .u8 1, .bool b, .slice a1 n1 c1, .slice a2 n2 c2, .int .i32 0, .slice none 0 0] 113)) (by simp)
 rw [World.size_alloc] at hb2
 go_enter Tryz.func60, Tryz.ntmps60
 go_wp2
 have r0 := hb2.cell 0 rfl
 have r1 := hb2.cell 1 rfl
 refine bodyPost_ret (v := .agg #[.slice none 0 0, .slice (some ⟨w.heap.size + 1 + 1, 0, none⟩) 1 1]) (by simp [results, Tryz.results60, go_sem, r0, r1]) rfl ?_
 exact ⟨_, rfl, by omega, hk, g3⟩
end

section
variable {w w' : World} {B ty base : Nat} {u0 u1 u2 u3 u4 u5 : Value}
theorem BoxA.set6 (h : BoxA w B ty #[u0, u1, u2, u3, u4, u5]) (v0 v1 v2 v3 v4 v5 : Value) : BoxA ((((((w.setCell ⟨B, 0, none⟩ v0).setCell ⟨B, 1, none⟩ v1).setCell ⟨B, 2, none⟩ v2).setCell ⟨B, 3, none⟩ v3).setCell ⟨B, 4, none⟩ v4).setCell ⟨B, 5, none⟩ v5) B ty #[v0, v1, v2, v3, v4, v5] := by
 unfold BoxA at h ⊢
 simp [World.setCell, Array.getElem?_modify, h]
theorem Below.set6 (h : Below base w w') (hB : base ≤ B) (v0 v1 v2 v3 v4 v5 : Value) : Below base w ((((((w'.setCell ⟨B, 0, none⟩ v0).setCell ⟨B, 1, none⟩ v1).setCell ⟨B, 2, none⟩ v2).setCell ⟨B, 3, none⟩ v3).setCell ⟨B, 4, none⟩ v4).setCell ⟨B, 5, none⟩ v5) :=
 (((((h.setCell (p := ⟨B, 0, none⟩) hB _).setCell (p := ⟨B, 1, none⟩) hB _).setCell (p := ⟨B, 2, none⟩) hB _).setCell (p := ⟨B, 3, none⟩) hB _).setCell (p := ⟨B, 4, none⟩) hB _).setCell (p := ⟨B, 5, none⟩) hB _
theorem Own.set6 {v : Value} {xs : List Int} (h : Own base w v xs) (hB : B < base) (v0 v1 v2 v3 v4 v5 : Value) : Own base ((((((w.setCell ⟨B, 0, none⟩ v0).setCell ⟨B, 1, none⟩ v1).setCell ⟨B, 2, none⟩ v2).setCell ⟨B, 3, none⟩ v3).setCell ⟨B, 4, none⟩ v4).setCell ⟨B, 5, none⟩ v5) v xs := by
 have e : v.ownBlock ≠ some B := ownBlock_ne h hB
 exact (((((h.setCell (a := ⟨B, 0, none⟩) e _).setCell (a := ⟨B, 1, none⟩) e _).setCell (a := ⟨B, 2, none⟩) e _).setCell (a := ⟨B, 3, none⟩) e _).setCell (a := ⟨B, 4, none⟩) e _).setCell (a := ⟨B, 5, none⟩) e _
end

theorem rd_parts' {B : Nat} {w : World} {a : Option Addr} {c : Nat} {xs : List Int} (h : Rd B w (.slice a xs.length c) xs) : (a = none ∧ xs = [] ∧ c = 0) ∨ ∃ ad, a = some ad ∧ ∀ j u, (xs.map (Value.int .u32))[j]? = some u → w.cell? (ad.add j) = some u := by
 obtain ⟨_, a', c', e, h1, h2, h3, h4⟩ := h
 have ea : a' = a ∧ c' = c := by cases e; exact ⟨rfl, rfl⟩
 obtain ⟨rfl, rfl⟩ := ea
 cases a' with
 | none =>
  have := h3 rfl
  subst this
  exact Or.inl ⟨rfl, List.eq_nil_of_length_eq_zero (by omega), rfl⟩
 | some ad =>
  refine Or.inr ⟨ad, rfl, ?_⟩
  rcases h4 with h4 | ⟨b, off, e2, _, hc⟩
  · have : xs = [] := List.eq_nil_of_length_eq_zero h4
    subst this
    intro j u h; simp at h
  · cases e2
    exact cells_news hc
theorem append_nil_list {B : Nat} {w : World} {ops : Array Oper} {rest : List Oper} {o : Oper} {a : Act} {Q : Exit → Act → World → Prop} {a1 : Option Addr} {c1 : Nat} {ns : List Int} (hgd : o.guard = none) (s x : Operand)
    (ho : o.op = .call { callee := .builtin .append, args := #[s, x], argTypes := #[108, 108] }) (hs : a.eval s = .slice none 0 0) (hx : a.eval x = .slice a1 ns.length c1) (hR : Rd B w (.slice a1 ns.length c1) ns) (hl : ns.length * 4 ≤ 140737488355328)
    (h : ∀ x1 y1 w', Own w.heap.size w' (.slice x1 ns.length y1) ns → Below w.heap.size w w' → wpList Tryz.prog ops Q rest (a.put o.dst (.slice x1 ns.length y1)) w') : wpList Tryz.prog ops Q (o :: rest) a w := by
 obtain ⟨i0, hi, hz0, hz1, hz2⟩ := info_parts info_u32
 have hlim := hR.lim
 rcases rd_parts' hR with ⟨rfl, rfl, rfl⟩ | ⟨ad, rfl, hN⟩
 · exact wpList_append_own_none hgd s x 108 ho w.heap.size 196 i0 1 Tryz.underlying108 hi (.slice none 0 0) 0 [] hs (World.ownsRow_nil _ _ _ _) hx (h none 0 w ⟨lim_nil, World.ownsRow_nil _ _ _ _⟩ (Below.refl _ _))
 · refine wpList_append_own _ hgd s x 108 ho w.heap.size 196 i0 (.int .u32 0) 1 4 Tryz.underlying108 hi hz0 hz1 hz2 rfl (by decide) (.slice none 0 0) 0 [] hs (World.ownsRow_nil _ _ _ _) ad ns.length c1 (ns.map (Value.int .u32)) hx (by rw [List.length_map]; omega) hN (ints_oneCell _ _) ?_ ?_ (Nat.le_refl _) ?_
   · unfold maxLen; omega
   · omega
   intro v' w2 hown hgrow _
   rw [Nat.zero_add, List.nil_append] at hown
   have o1 : Own w.heap.size w2 v' ns := ⟨hlim, hown⟩
   obtain ⟨x1, y1, rfl⟩ := o1.form
   exact h x1 y1 w2 o1 ((Below.refl _ _).grown hgrow (Nat.le_refl _) (fun k h => by cases h))

set_option maxRecDepth 100000 in
set_option maxHeartbeats 1600000 in
theorem copyLimbs_any {w : World} {a1 : Option Addr} {c1 : Nat} {ns : List Int} (h1 : Rd w.heap.size w (.slice a1 ns.length c1) ns) (l1 : ns.length * 4 ≤ 140737488355328) :
    Calls Tryz.prog 179 #[.slice a1 ns.length c1] w fun e w' => ∃ x1 y1, e = .returned (.slice x1 ns.length y1) ∧ Own w.heap.size w' (.slice x1 ns.length y1) ns ∧ Below w.heap.size w w' := by
 go_enter Tryz.func179, Tryz.ntmps179
 go_wp2_with (at_builtin; refine append_nil_list rfl _ _ rfl rfl rfl h1 l1 ?_)
 intro x1 y1 w2 o1 k1
 go_wp2
 go_ret
 exact ⟨x1, y1, rfl, o1, k1⟩
end Go.Proofs.YtimfnalpmmkndaaGreatDoor

/- Rows of texts: read, appended to, copied. -/
namespace Go.Proofs.YtimfnalpmmkndaaGreatDoor
set_option linter.unusedVariables false
set_option linter.unusedSimpArgs false
open Go.RowKit

theorem info_strS : (Tryz.prog.info? 9).map (fun i => (i.zero, i.size, i.bytes)) = some (some (.string ⟨#[]⟩), 1, 16) := by kernel_rfl
def RdS (B : Nat) (w : World) (v : Value) (ss : List ByteArray) : Prop := ∃ a c, v = .slice a ss.length c ∧ ss.length ≤ c ∧ c ≤ 9223372036854775807 ∧ (a = none → c = 0) ∧ (ss = [] ∨ ∃ g o, a = some ⟨g, o, none⟩ ∧ g < B ∧ ∀ j, j < ss.length → w.cell? ⟨g, o + j, none⟩ = some (.string (ss.getD j noT)))
abbrev OwS (base : Nat) (w : World) (v : Value) (ss : List ByteArray) : Prop := w.ownsRow base 9 1 v ss.length (ss.map Value.string)
theorem RdS.nil (B : Nat) (w : World) : RdS B w (.slice none 0 0) [] := ⟨none, 0, rfl, by simp, by omega, fun _ => rfl, Or.inl rfl⟩
theorem RdS.below {B C : Nat} {w w' : World} {v : Value} {ss : List ByteArray} (h : RdS B w v ss) (k : Below C w w') (hC : B ≤ C) : RdS B w' v ss := by
 obtain ⟨a, c, h1, h2, h3, h3', h4⟩ := h
 refine ⟨a, c, h1, h2, h3, h3', ?_⟩
 rcases h4 with h4 | ⟨g, o, h4, h5, h6⟩
 · exact Or.inl h4
 · exact Or.inr ⟨g, o, h4, h5, fun j hj => by rw [k.cell (p := ⟨g, o + j, none⟩) (by show g < C; omega)]; exact h6 j hj⟩
theorem RdS.mono {B C : Nat} {w : World} {v : Value} {ss : List ByteArray} (h : RdS B w v ss) (hC : B ≤ C) : RdS C w v ss := by
 obtain ⟨a, c, h1, h2, h3, h3', h4⟩ := h
 refine ⟨a, c, h1, h2, h3, h3', ?_⟩
 rcases h4 with h4 | ⟨g, o, h4, h5, h6⟩
 · exact Or.inl h4
 · exact Or.inr ⟨g, o, h4, by omega, h6⟩
theorem RdS.form {B : Nat} {w : World} {v : Value} {ss : List ByteArray} (h : RdS B w v ss) : ∃ a c, v = .slice a ss.length c ∧ ss.length ≤ c ∧ c ≤ 9223372036854775807 := by
 obtain ⟨a, c, h1, h2, h3, _⟩ := h
 exact ⟨a, c, h1, h2, h3⟩
theorem RdS.ptr {B : Nat} {w : World} {a : Option Addr} {n c : Nat} {ss : List ByteArray} (h : RdS B w (.slice a n c) ss) (h0 : 0 < ss.length) : ∃ g o, a = some ⟨g, o, none⟩ ∧ g < B ∧ ∀ j, j < ss.length → w.cell? ⟨g, o + j, none⟩ = some (.string (ss.getD j noT)) := by
 obtain ⟨a', c', h1, h2, h3, _, h4⟩ := h
 obtain ⟨rfl, _, _⟩ := Value.slice.inj h1
 rcases h4 with h4 | h4
 · subst h4; simp at h0
 · exact h4
theorem getD_mapS {ss : List ByteArray} {j : Nat} (hj : j < ss.length) : (ss.map Value.string)[j]? = some (.string (ss.getD j noT)) := by
 rw [List.getElem?_map, List.getElem?_eq_getElem hj]
 simp [List.getD_eq_getElem?_getD, List.getElem?_eq_getElem hj]
theorem RdS.of_row {base : Nat} {w : World} {v : Value} {ss : List ByteArray} (h : OwS base w v ss) : RdS w.heap.size w v ss := by
 have h' := h
 obtain ⟨h1, ⟨hv, hn⟩ | ⟨g, cap, cur, hv, hg, hh, r1, r2, r3, r4⟩⟩ := h'
 · have : ss = [] := List.eq_nil_of_length_eq_zero hn
   subst this
   rw [hv]
   exact RdS.nil _ _
 · subst hv
   refine ⟨some ⟨g, 0, none⟩, cap, rfl, r1, r2, (fun e => by cases e), Or.inr ⟨g, 0, rfl, lt_of_block hh, fun j hj => ?_⟩⟩
   rw [Nat.zero_add, World.ownsRow.cellAt h j (by omega)]
   exact getD_mapS hj
theorem owS_belowS {base B : Nat} {w w' : World} {v : Value} {ss : List ByteArray} (h : OwS base w v ss) (hb : Below B w w') (hB : w.heap.size ≤ B) : OwS base w' v ss := by
 obtain ⟨h1, h | ⟨g, cap, cur, hv, hg, hh, r⟩⟩ := h
 · exact ⟨h1, Or.inl h⟩
 · exact ⟨h1, Or.inr ⟨g, cap, cur, hv, hg, by rw [hb.block g (Nat.lt_of_lt_of_le (lt_of_block hh) hB)]; exact hh, r⟩⟩
theorem row_form2S {W : World} {base e size n : Nat} {v : Value} {xs : List Value} (h : W.ownsRow base e size v n xs) : ∃ a cap, v = .slice a n cap := by
 obtain ⟨_, ⟨rfl, rfl⟩ | ⟨g, cap, _, rfl, _⟩⟩ := h
 · exact ⟨none, 0, rfl⟩
 · exact ⟨some ⟨g, 0, none⟩, cap, rfl⟩
theorem strs_one (ss : List ByteArray) : ∀ u ∈ ss.map Value.string, u.oneCell' = true := by
 intro u hu
 obtain ⟨x, _, rfl⟩ := List.mem_map.1 hu
 rfl
theorem append_strs {B base : Nat} {w : World} {ops : Array Oper} {rest : List Oper} {o : Oper} {a : Act} {Q : Exit → Act → World → Prop} {v x' : Value} {xs ys : List ByteArray} (hgd : o.guard = none) (s x : Operand)
    (ho : o.op = .call { callee := .builtin .append, args := #[s, x], argTypes := #[25, 25] }) (hs : a.eval s = v) (hx : a.eval x = x') (hO : OwS base w v xs) (hR : RdS B w x' ys) (hl : (xs.length + ys.length) * 16 ≤ 140737488355328) (hb : base ≤ w.heap.size)
    (h : ∀ v' w', OwS base w' v' (xs ++ ys) → w.grownBy w' v.ownBlock → wpList Tryz.prog ops Q rest (a.put o.dst v') w') : wpList Tryz.prog ops Q (o :: rest) a w := by
 obtain ⟨i0, hi, hz0, hz1, hz2⟩ := info_parts info_strS
 obtain ⟨a1, c1, rfl, h2, h3, h3', h4⟩ := hR
 cases a1 with
 | none =>
  have := h3' rfl
  subst this
  have : ys = [] := List.eq_nil_of_length_eq_zero (by omega)
  subst this
  refine wpList_append_own_none hgd s x 25 ho base 9 i0 1 Tryz.underlying25 hi v xs.length (xs.map Value.string) hs hO hx (h v w (by rw [List.append_nil]; exact hO) (World.grownBy.refl _ _))
 | some ad =>
  refine wpList_append_own _ hgd s x 25 ho base 9 i0 (.string ⟨#[]⟩) 1 16 Tryz.underlying25 hi hz0 hz1 hz2 rfl (by decide) v xs.length (xs.map Value.string) hs hO ad ys.length c1 (ys.map Value.string) hx (by rw [List.length_map]; omega) ?_ (strs_one _) ?_ hl hb ?_
  · rcases h4 with h4 | ⟨g, o', h4, h5, h6⟩
    · subst h4; intro j u hj; simp at hj
    · cases h4
      intro j u hj
      have hjl : j < ys.length := by
       rcases Nat.lt_or_ge j ys.length with h' | h'
       · exact h'
       · rw [List.getElem?_eq_none (by simpa using h')] at hj; cases hj
      rw [getD_mapS hjl] at hj
      cases hj
      have := h6 j hjl
      rw [show (⟨g, o', none⟩ : Addr).add j = ⟨g, o' + j, none⟩ by cases j <;> simp [Addr.add]]
      exact this
  · unfold maxLen; omega
  intro v' w2 hown hgrow _
  refine h v' w2 ?_ hgrow
  unfold OwS
  rw [List.length_append, List.map_append]
  exact hown
theorem step_append_strs {B base : Nat} {ops : Array Oper} {o : Oper} {a : Act} {w : World} {K : Act → World → Prop} {Q : Exit → Act → World → Prop} {E : Prop} {v x' : Value} {xs ys : List ByteArray} (hg : o.guard = none) (s x : Operand)
    (ho : o.op = .call { callee := .builtin .append, args := #[s, x], argTypes := #[25, 25] }) (hs : a.eval s = v) (hx : a.eval x = x') (hO : OwS base w v xs) (hR : RdS B w x' ys) (h0 : 0 < ys.length) (hl : (xs.length + ys.length) * 16 ≤ 140737488355328) (hb : base ≤ w.heap.size)
    (hK : ∀ v' w', OwS base w' v' (xs ++ ys) → w.grownBy w' v.ownBlock → K (a.put o.dst v') w') :
    if Region.wanted o (yielded ops a.tmps) = true then Oper.wp Tryz.prog o a w K Q else E := by
 rw [if_pos (by simp [Region.wanted, hg])]
 obtain ⟨i0, hi, hz0, hz1, hz2⟩ := info_parts info_strS
 obtain ⟨a1, c1, rfl, h2, h3, h3', h4⟩ := hR
 rcases h4 with h4 | ⟨g, o', rfl, h5, h6⟩
 · subst h4; simp at h0
 obtain ⟨v', w', hr, h2, h3, h4, h5⟩ := run_append_own_at (P := Tryz.prog) w base 25 o.type 9 i0 (.string ⟨#[]⟩) 1 16 Tryz.underlying25 hi hz0 hz1 hz2 rfl (by decide) v xs.length (xs.map Value.string) hO ⟨g, o', none⟩ ys.length c1 (ys.map Value.string) (by rw [List.length_map]; omega) (by
  intro j u hj
  have hjl : j < ys.length := by
   rcases Nat.lt_or_ge j ys.length with h' | h'
   · exact h'
   · rw [List.getElem?_eq_none (by simpa using h')] at hj; cases hj
  rw [getD_mapS hjl] at hj
  cases hj
  have := h6 j hjl
  rw [show (⟨g, o', none⟩ : Addr).add j = ⟨g, o' + j, none⟩ by cases j <;> simp [Addr.add]]
  exact this) (strs_one _) (by unfold maxLen; omega) hl hb
 unfold Oper.wp execOp
 simp only [ho, resolve, invoke, builtin, Sem.run_bind, Sem.run_pure, Result.andThen_ok, List.map_toArray, List.map_cons, List.map_nil, hs, hx, hr]
 refine hK v' w' ?_ h3
 unfold OwS
 rw [List.length_append, List.map_append]
 exact h2
theorem rdS_new1 (w : World) (x : ByteArray) : RdS (w.heap.size + 1) (w.alloc (.cells #[.string x] 9)) (.slice (some ⟨w.heap.size, 0, none⟩) 1 1) [x] := by
 refine ⟨some ⟨w.heap.size, 0, none⟩, 1, rfl, by simp, by omega, (fun e => by cases e), Or.inr ⟨w.heap.size, 0, rfl, by omega, fun j hj => ?_⟩⟩
 have hb : BoxA (w.alloc (.cells #[.string x] 9)) w.heap.size 9 #[.string x] := boxA_new w #[.string x] 9
 match j, hj with
 | 0, _ => exact hb.cell 0 rfl
theorem boxA_put {w : World} {B ty : Nat} {xs : Array Value} (h : BoxA w B ty xs) (i : Nat) (v : Value) : BoxA (w.setCell ⟨B, i, none⟩ v) B ty (xs.setIfInBounds i v) := by
 unfold BoxA at h ⊢
 simp [World.setCell, Array.getElem?_modify, h]
theorem sl_nil (w : World) (a : Option Addr) (n c : Nat) : (binOp .eql 25 (.slice a n c) (.slice none 0 0)).run Tryz.prog w = .ok (.bool a.isNone) w := Lib.run_eql_slice_nil w 25 9 a n c 0 0 Tryz.underlying25
theorem owS_empty (w : World) : OwS w.heap.size (w.alloc (.cells #[] 9)) (.slice (some ⟨w.heap.size, 0, none⟩) 0 0) [] := ⟨rfl, Or.inr ⟨w.heap.size, 0, #[], rfl, Nat.le_refl _, heap_alloc_new w _, Nat.le_refl _, by unfold maxLen; omega, rfl, rfl⟩⟩
theorem row_cut {W : World} {base e n cap g k : Nat} {xs : List Value} (h : W.ownsRow base e 1 (.slice (some ⟨g, 0, none⟩) n cap) n xs) (hk : k ≤ n) : W.ownsRow base e 1 (.slice (some ⟨g, 0, none⟩) k cap) k (xs.take k) := by
 obtain ⟨h1, ⟨hv, _⟩ | ⟨g', cap', cur, hv, hg, hh, r1, r2, r3, r4⟩⟩ := h
 · cases hv
 · obtain ⟨hv1, hv2, rfl⟩ := Value.slice.inj hv
   cases hv1
   refine ⟨by rw [List.length_take]; omega, Or.inr ⟨g, cap, cur, rfl, hg, hh, by omega, r2, r3, ?_⟩⟩
   rw [← r4, List.take_take, Nat.min_eq_left (by omega), Nat.mul_one]
set_option maxRecDepth 100000 in
set_option maxHeartbeats 4000000 in
theorem clone_strs {B : Nat} {w : World} {a : Option Addr} {c : Nat} {ss : List ByteArray} (h : RdS B w (.slice a ss.length c) ss) (hB : B ≤ w.heap.size) (h0 : 0 < ss.length) (hl : ss.length ≤ 1000000) :
    Calls Tryz.prog 56 #[.slice a ss.length c] w fun e w' => ∃ a' c', e = .returned (.slice a' ss.length c') ∧ OwS w.heap.size w' (.slice a' ss.length c') ss ∧ Below w.heap.size w w' := by
 obtain ⟨g, o, rfl, hg, hc⟩ := h.ptr h0
 have HR : Hid (RdS B w (.slice (some ⟨g, o, none⟩) ss.length c) ss) := h
 clear h hc
 have hnil := sl_nil
 go_enter Tryz.func56, Tryz.ntmps56
 go_wp2_with (at_builtin; refine append_strs rfl _ _ rfl rfl rfl (base := w.heap.size) (xs := []) (owS_empty w) (HR.out.below (below_alloc w _) hB) (by simp; omega) (by simp) ?_)
 intro v' w' hO hgr
 obtain ⟨a', c', rfl⟩ := row_form2S hO
 have hb : Below w.heap.size w w' := (below_alloc w _).grown hgr (by simp) (fun k hk => by cases hk; exact Nat.le_refl _)
 go_wp2
 go_ret
 exact ⟨a', c', rfl, hO, hb⟩
theorem wpList_append_zerosS {w : World} {ops : Array Oper} {rest : List Oper} {o : Oper} {a : Act} {Q : Exit → Act → World → Prop} (hgd : o.guard = none) (s x : Operand)
    (ho : o.op = .call { callee := .builtin .append, args := #[s, x], argTypes := #[25, 3] }) (hs : a.eval s = .slice none 0 0) (n : Nat) (hx : a.eval x = .int .i64 n) (h0 : 0 < n) (hn : n ≤ 1000000)
    (h : ∀ g cap w', OwS w.heap.size w' (.slice (some ⟨g, 0, none⟩) 0 cap) [] → Below w.heap.size w w' → n ≤ cap → cap ≤ 9223372036854775807 → wpList Tryz.prog ops Q rest (a.put o.dst (.slice (some ⟨g, 0, none⟩) n cap)) w') : wpList Tryz.prog ops Q (o :: rest) a w := by
 refine wpList_plain hgd fun K hK => ?_
 obtain ⟨i0, hi, hz0, hz1, hz2⟩ := info_parts info_strS
 obtain ⟨g, cap, w', hr, r1, r2⟩ := run_append_own_zeros (P := Tryz.prog) w w.heap.size 25 3 o.type 9 i0 (.string ⟨#[]⟩) .i64 .i64 Tryz.underlying25 Tryz.underlying3 hi hz0 hz1 rfl rfl (.slice none 0 0) 0 [] (World.ownsRow_nil _ _ _ _) n h0 (by unfold maxLen; omega) (by rw [hz2]; omega) (Nat.le_refl _)
 have HB : Below w.heap.size w w' := (Below.refl _ _).grown r2 (Nat.le_refl _) (fun k hk => by cases hk)
 rw [Nat.zero_add] at r1 hr
 obtain ⟨_, ⟨hv, _⟩ | ⟨g', cap', cur, hv, hg, hh, q1, q2, q3, q4⟩⟩ := id r1
 · cases hv
 obtain ⟨hv1, _, rfl⟩ := Value.slice.inj hv
 unfold Oper.wp
 simp [execOp, ho, resolve, invoke, builtin, hs, hx, hr, Result.andThen]
 exact hK _ _ (h g cap w' (row_cut r1 (Nat.zero_le _)) HB q1 q2)
set_option maxRecDepth 100000 in
set_option maxHeartbeats 4000000 in
theorem grow_strs {w : World} (n : Nat) (hn : n ≤ 1000000) :
    Calls Tryz.prog 86 #[.slice none 0 0, .int .i64 n] w fun e w' => ∃ v, e = .returned v ∧ OwS w.heap.size w' v [] ∧ Below w.heap.size w w' := by
 rcases Nat.eq_zero_or_pos n with rfl | h0
 · go_enter Tryz.func86, Tryz.ntmps86
   go_wp2
   go_ret
   exact ⟨_, rfl, World.ownsRow_nil _ _ _ _, Below.refl _ _⟩
 have h1 : (0 : Int) < (n : Int) := by omega
 go_enter Tryz.func86, Tryz.ntmps86
 go_wp2_with (at_builtin; refine wpList_append_zerosS rfl _ _ rfl rfl n rfl h0 hn ?_)
 intro g cap w' hO hB h2 h3
 go_wp2
 go_ret
 exact ⟨_, rfl, hO, hB⟩
def RdSS (B : Nat) (w : World) (g o : Nat) (vs : List Value) (R : List (List ByteArray)) : Prop := vs.length = R.length ∧ ∀ j, j < R.length → w.cell? ⟨g, o + j, none⟩ = some (vs.getD j (.bool false)) ∧ RdS B w (vs.getD j (.bool false)) (R.getD j [])
theorem sum_take {R : List (List ByteArray)} {i : Nat} (hi : i < R.length) : ((R.take (i + 1)).map List.length).sum = ((R.take i).map List.length).sum + (R.getD i []).length := by
 rw [List.take_add_one, List.getElem?_eq_getElem hi, List.map_append, List.sum_append, List.getD_eq_getElem?_getD, List.getElem?_eq_getElem hi]
 simp only [Option.toList, List.map_cons, List.map_nil, List.sum_cons, List.sum_nil, Nat.add_zero, Option.getD_some]
theorem flat_take {R : List (List ByteArray)} {i : Nat} (hi : i < R.length) : (R.take (i + 1)).flatten = (R.take i).flatten ++ R.getD i [] := by
 rw [List.take_add_one, List.getElem?_eq_getElem hi, List.flatten_append, List.getD_eq_getElem?_getD, List.getElem?_eq_getElem hi]
 simp only [Option.toList, List.flatten_cons, List.flatten_nil, List.append_nil, Option.getD_some]
theorem sum_le {R : List (List ByteArray)} (i : Nat) : ((R.take i).map List.length).sum ≤ (R.map List.length).sum := by
 have e : (R.map List.length).sum = ((R.take i).map List.length).sum + ((R.drop i).map List.length).sum := by rw [← List.sum_append, ← List.map_append, List.take_append_drop]
 omega
theorem flat_len (R : List (List ByteArray)) : R.flatten.length = (R.map List.length).sum := by simp [List.length_flatten]
set_option maxRecDepth 100000 in
set_option maxHeartbeats 8000000 in
theorem concat_strs {B : Nat} {w : World} {g o : Nat} {vs : List Value} {R : List (List ByteArray)} (h : RdSS B w g o vs R) (hB : B ≤ w.heap.size) (hg : g < w.heap.size) (hR : R.length ≤ 1000) (hl : (R.map List.length).sum ≤ 1000000) {c : Nat} (hc : R.length ≤ c) (hc2 : c ≤ 9223372036854775807) :
    Calls Tryz.prog 57 #[.slice (some ⟨g, o, none⟩) R.length c] w fun e w' => ∃ v, e = .returned v ∧ OwS w.heap.size w' v R.flatten ∧ Below w.heap.size w w' := by
 have HR : Hid (RdSS B w g o vs R) := h
 have HL : Hid ((R.map List.length).sum ≤ 1000000) := hl
 clear h hl
 go_enter Tryz.func57, Tryz.ntmps57
 go_wp2
 go_loopw [3, 11] (fun sv iv wr => ∃ (i s : Nat), iv = .int .i64 i ∧ sv = .int .i64 s ∧ i ≤ R.length ∧ Hid (s = ((R.take i).map List.length).sum) ∧ wr = w) (fun _ iv _ => R.length - (intOf iv).toNat)
 case atStart => exact ⟨0, 0, rfl, rfl, Nat.zero_le _, rfl, rfl⟩
 case round =>
  obtain ⟨i, s, rfl, rfl, hil, HS, hw⟩ := hrel
  obtain rfl := hw.symm
  by_cases hlt : i < R.length
  · obtain ⟨q1, q2⟩ := HR.out.2 i hlt
    obtain ⟨a, c1, e1, hc1, hc3⟩ := q2.form
    rw [e1] at q1
    have hs2 : s + (R.getD i []).length ≤ 1000000 := by
     have := HS.out
     have h2 := sum_le (R := R) (i + 1)
     rw [sum_take hlt] at h2
     have := HL.out
     omega
    have HS2 : Hid (s + (R.getD i []).length = ((R.take (i + 1)).map List.length).sum) := by
     unfold Hid
     rw [sum_take hlt, ← HS.out]
    generalize (R.getD i []).length = m at *
    clear q2 e1 HS
    have hlt0 : ¬ ((s : Int) + (m : Int) < 0) := by omega
    go_wp2
    go_roundw
    case rel => exact ⟨i + 1, s + m, by go_num, by go_num, by omega, HS2, trivial⟩
    case measure => simp [intOf]; omega
  obtain rfl : i = R.length := by omega
  have hs2 : s ≤ 1000000 := by
   have := HS.out
   rw [List.take_length] at this
   have := HL.out
   omega
  clear HS
  go_wp2_with fail
  refine (grow_strs (w := w) s hs2).mono ?_
  rintro e w1 ⟨v1, rfl, hO, k1⟩
  obtain ⟨a1, c1, rfl⟩ := row_form2S hO
  have s1 := k1.size
  go_wp2
  go_loopw [6, 27] (fun sv iv wr => ∃ (i : Nat) (xs : List ByteArray), iv = .int .i64 i ∧ i ≤ R.length ∧ Hid (xs = (R.take i).flatten) ∧ OwS w.heap.size wr sv xs ∧ Below w.heap.size w wr) (fun _ iv _ => R.length - (intOf iv).toNat)
  case atStart => exact ⟨0, [], rfl, Nat.zero_le _, rfl, hO, k1⟩
  case round =>
   obtain ⟨i, xs, rfl, hil, HX, hO2, k2⟩ := hrel
   obtain ⟨a2, c2, rfl⟩ := row_form2S hO2
   by_cases hlt : i < R.length
   · obtain ⟨q1, q2⟩ := HR.out.2 i hlt
     have q3 := k2.cell (p := ⟨g, o + i, none⟩) hg
     rw [q1] at q3
     have q4 := q2.below k2 hB
     obtain ⟨a, c3, e1, hc4, hc5⟩ := q2.form
     rw [e1] at q1 q3 q4
     have hxl : xs.length + (R.getD i []).length ≤ 1000000 := by
      have h1 := HX.out
      have h2 := sum_le (R := R) (i + 1)
      rw [sum_take hlt, ← flat_len, ← h1] at h2
      have := HL.out
      omega
     have HX2 : Hid (xs ++ R.getD i [] = (R.take (i + 1)).flatten) := by
      unfold Hid
      rw [flat_take hlt, ← HX.out]
     clear q1 q2 e1 HX
     generalize R.getD i [] = ys at *
     have HQ : Hid (RdS B wr (.slice a ys.length c3) ys) := q4
     clear q4
     go_wp2_with (at_builtin; refine append_strs rfl _ _ rfl rfl rfl hO2 HQ.out (by omega) (by have := k2.size; omega) ?_)
     intro v' w' hO3 hgr
     have k3 : Below w.heap.size w w' := k2.grown hgr k2.size (fun k hk => (hO2.lt k hk).1)
     go_wp2
     go_roundw
     case rel => exact ⟨i + 1, xs ++ ys, by go_num, by omega, HX2, hO3, k3⟩
     case measure => simp [intOf]; omega
   obtain rfl : i = R.length := by omega
   have HX2 : Hid (xs = R.flatten) := by
    have := HX.out
    rw [List.take_length] at this
    exact this
   clear HX
   go_wp2
   go_ret
   exact ⟨_, rfl, by rw [← HX2.out]; exact hO2, k2⟩
theorem RdS.cap {B : Nat} {w : World} {a : Option Addr} {n c : Nat} {ss : List ByteArray} (h : RdS B w (.slice a n c) ss) : ss.length ≤ c ∧ c ≤ 9223372036854775807 := by
 obtain ⟨a', c', h1, h2, h3, _⟩ := h
 obtain ⟨_, _, rfl⟩ := Value.slice.inj h1
 exact ⟨h2, h3⟩
theorem isNo_list (x : ByteArray) : x.toList.isEmpty = decide (x = noT) ∧ (x.toList = [] ↔ x = noT) := by
 have e : x.toList = [] ↔ x = noT := by
  rw [ByteArray.toList_eq]
  exact ⟨fun e => ByteArray.ext (Array.toList_inj.mp (by rw [e]; rfl)), fun e => by rw [e]; rfl⟩
 refine ⟨?_, e⟩
 by_cases hx : x = noT
 · rw [decide_eq_true hx, List.isEmpty_iff]; exact e.2 hx
 · rw [decide_eq_false hx]
   cases h : x.toList.isEmpty with
   | false => rfl
   | true => exact absurd (e.1 (List.isEmpty_iff.1 h)) hx
set_option maxRecDepth 100000 in
theorem isNo_any (s : ByteArray) (w : World) : Calls Tryz.prog 59 #[.string s] w fun e w' => e = .returned (.bool (decide (s = noT))) ∧ w' = w := by
 have h := isNo_list s
 go_enter Tryz.func59, Tryz.ntmps59
 go_wp2
 go_ret
 exact ⟨rfl, rfl⟩
def Idx (ss : List ByteArray) (r : Int) : Prop := (r = -1 ∧ ∀ x ∈ ss, ¬ x = noT) ∨ ∃ i : Nat, r = i ∧ i < ss.length ∧ ss.getD i noT = noT ∧ ∀ j, j < i → ¬ ss.getD j noT = noT
theorem getD_memS {ss : List ByteArray} {x : ByteArray} (hx : x ∈ ss) : ∃ j, j < ss.length ∧ ss.getD j noT = x := by
 obtain ⟨j, hj, e⟩ := List.getElem_of_mem hx
 exact ⟨j, hj, by rw [List.getD_eq_getElem?_getD, List.getElem?_eq_getElem hj]; exact e⟩
set_option maxRecDepth 100000 in
set_option maxHeartbeats 4000000 in
theorem index_strs {B : Nat} {w : World} {a : Option Addr} {c : Nat} {ss : List ByteArray} (h : RdS B w (.slice a ss.length c) ss) (hl : ss.length ≤ 1000000) :
    Calls Tryz.prog 87 #[.slice a ss.length c, .func (.func 59) #[] #[]] w fun e w' => ∃ r, e = .returned (.int .i64 r) ∧ Idx ss r ∧ w' = w := by
 have HR : Hid (RdS B w (.slice a ss.length c) ss) := h
 obtain ⟨hc1, hc2⟩ := h.cap
 clear h
 go_enter Tryz.func87, Tryz.ntmps87
 go_wp2
 go_loopw [8] (fun iv wr => ∃ (i : Nat), iv = .int .i64 i ∧ i ≤ ss.length ∧ Hid (∀ j, j < i → ¬ ss.getD j noT = noT) ∧ wr = w) (fun iv _ => ss.length - (intOf iv).toNat)
 case atStart => exact ⟨0, rfl, Nat.zero_le _, (fun j hj => by omega), rfl⟩
 case round =>
  obtain ⟨i, rfl, hil, HS, hw⟩ := hrel
  obtain rfl := hw.symm
  by_cases hlt : i < ss.length
  · obtain ⟨g, o, rfl, hg, hc⟩ := HR.out.ptr (by omega)
    have q := hc i hlt
    obtain ⟨x, hx⟩ : ∃ x, x = ss.getD i noT := ⟨_, rfl⟩
    rw [← hx] at q
    have HX : Hid (x = ss.getD i noT) := hx
    clear hc hx
    go_wp2_with fail
    refine (isNo_any x w).mono ?_
    rintro e w' ⟨rfl, hw⟩
    obtain rfl := hw.symm
    by_cases hno : x = noT
    · have HI : Hid (Idx ss i) := Or.inr ⟨i, rfl, hlt, by rw [← HX.out]; exact hno, HS.out⟩
      rw [decide_eq_true hno]
      clear HS hno q
      go_wp2
      go_ret
      exact ⟨_, rfl, HI.out, rfl⟩
    · have HS2 : Hid (∀ j, j < i + 1 → ¬ ss.getD j noT = noT) := by
       intro j hj
       by_cases hji : j = i
       · rw [hji, ← HX.out]; exact hno
       · exact HS.out j (by omega)
      rw [decide_eq_false hno]
      clear HS hno q
      go_wp2
      go_roundw
      case rel => exact ⟨i + 1, by go_num, by omega, HS2, trivial⟩
      case measure => simp [intOf]; omega
  obtain rfl : i = ss.length := by omega
  have HI : Hid (Idx ss (-1)) := Or.inl ⟨rfl, fun x hx => by obtain ⟨j, hj, rfl⟩ := getD_memS hx; exact HS.out j hj⟩
  clear HS
  go_wp2
  go_ret
  exact ⟨_, rfl, HI.out, rfl⟩
theorem owS_set {base g n cap i : Nat} {w : World} {ys : List ByteArray} (h : w.ownsRow base 9 1 (.slice (some ⟨g, 0, none⟩) n cap) n (ys.map Value.string)) (x : ByteArray) (hi : i < n) : (w.setCell ⟨g, i, none⟩ (.string x)).ownsRow base 9 1 (.slice (some ⟨g, 0, none⟩) n cap) n ((ys.set i x).map Value.string) := by
 obtain ⟨h1, ⟨hv, _⟩ | ⟨g', cap', cur, hv, hg, hh, r1, r2, r3, r4⟩⟩ := h
 · cases hv
 · obtain ⟨hv1, _, rfl⟩ := Value.slice.inj hv
   cases hv1
   refine ⟨by simpa using h1, Or.inr ⟨g, cap, cur.setIfInBounds i (.string x), rfl, hg, boxA_put hh i _, r1, r2, by simpa using r3, ?_⟩⟩
   rw [Array.toList_setIfInBounds, List.take_set, r4, List.map_set]
theorem owS_cells {base g n cap i : Nat} {w : World} {ys : List ByteArray} (h : w.ownsRow base 9 1 (.slice (some ⟨g, 0, none⟩) n cap) n (ys.map Value.string)) (hi : i < n) : w.cell? ⟨g, i, none⟩ = some (.string (ys.getD i noT)) ∧ w.frozen? ⟨g, i, none⟩ = false ∧ g < w.heap.size ∧ n ≤ cap ∧ cap ≤ 9223372036854775807 := by
 have hc := World.ownsRow.cellAt h i (by omega)
 obtain ⟨h1, ⟨hv, _⟩ | ⟨g', cap', cur, hv, hg, hh, r1, r2, r3, r4⟩⟩ := h
 · cases hv
 · obtain ⟨hv1, _, rfl⟩ := Value.slice.inj hv
   cases hv1
   have hl : i < ys.length := by simp at h1; omega
   exact ⟨by rw [hc]; exact getD_mapS hl, BoxA.frozen hh i, lt_of_block hh, r1, r2⟩
theorem clears {g : Nat} : ∀ (vs : List Value) (o : Nat) {w : World} {cur : Array Value} {ty : Nat}, BoxA w g ty cur → ∃ cur', BoxA (w.setCells g o vs) g ty cur' ∧ cur'.size = cur.size ∧ cur'.toList.take o = cur.toList.take o
 | [], o, w, cur, ty, h => ⟨cur, h, rfl, rfl⟩
 | v :: vs, o, w, cur, ty, h => by
  obtain ⟨cur', h1, h2, h3⟩ := clears vs (o + 1) (boxA_put h o v)
  refine ⟨cur', h1, by rw [h2]; simp, ?_⟩
  have := congrArg (List.take o) h3
  rw [List.take_take, List.take_take, Nat.min_eq_left (by omega)] at this
  rw [this, Array.toList_setIfInBounds, List.take_set_of_le (by omega)]
theorem owS_clear {base g n cap i : Nat} {w : World} {ys : List ByteArray} (h : w.ownsRow base 9 1 (.slice (some ⟨g, 0, none⟩) n cap) n (ys.map Value.string)) (hi : i ≤ n) (vs : List Value) : (w.setCells g i vs).ownsRow base 9 1 (.slice (some ⟨g, 0, none⟩) i cap) i ((ys.take i).map Value.string) := by
 obtain ⟨h1, ⟨hv, _⟩ | ⟨g', cap', cur, hv, hg, hh, r1, r2, r3, r4⟩⟩ := h
 · cases hv
 · obtain ⟨hv1, _, rfl⟩ := Value.slice.inj hv
   cases hv1
   obtain ⟨cur', q1, q2, q3⟩ := clears vs i hh
   refine ⟨by simp at h1 ⊢; omega, Or.inr ⟨g, cap, cur', rfl, hg, q1, by omega, r2, by rw [q2]; exact r3, ?_⟩⟩
   rw [Nat.mul_one, q3, List.map_take, ← r4, List.take_take, Nat.min_eq_left (by omega)]
theorem setCells_grown {w : World} {g : Nat} : ∀ (vs : List Value) (o : Nat) {W : World}, w.grownBy W (some g) → w.grownBy (W.setCells g o vs) (some g)
 | [], _, _, h => h
 | v :: vs, o, W, h => setCells_grown vs (o + 1) (W := W.setCell ⟨g, o, none⟩ v) ⟨h.os, h.tape, h.output, by rw [show (W.setCell ⟨g, o, none⟩ v).heap.size = W.heap.size by simp [World.setCell]]; exact h.size, fun k hk hne => by
     rw [show (W.setCell ⟨g, o, none⟩ v).heap[k]? = W.heap[k]? by
      have : ¬ g = k := fun e => hne (by rw [e])
      simp [World.setCell, Array.getElem?_modify, this]]
     exact h.block k hk hne⟩
theorem row_ptrS {W : World} {base e size n : Nat} {a : Option Addr} {c : Nat} {xs : List Value} (h : W.ownsRow base e size (.slice a n c) n xs) (h0 : 0 < n) : ∃ g, a = some ⟨g, 0, none⟩ ∧ n ≤ c ∧ c ≤ 9223372036854775807 ∧ g < W.heap.size := by
 obtain ⟨_, ⟨_, rfl⟩ | ⟨g, cap, cur, hv, _, hh, r1, r2, _⟩⟩ := h
 · omega
 · obtain ⟨rfl, _, rfl⟩ := Value.slice.inj hv
   exact ⟨g, rfl, r1, r2, lt_of_block hh⟩
theorem filter_all {ss : List ByteArray} (h : ∀ x ∈ ss, ¬ x = noT) : ss.filter full = ss := by
 rw [List.filter_eq_self]
 intro x hx
 simp [full, h x hx]
theorem filter_first {ss : List ByteArray} {i : Nat} (hi : i < ss.length) (h0 : ss.getD i noT = noT) (hb : ∀ j, j < i → ¬ ss.getD j noT = noT) : (ss.take (i + 1)).filter full = ss.take i := by
 rw [List.take_add_one, List.getElem?_eq_getElem hi, List.filter_append]
 have e : ss[i] = noT := by rw [← h0, List.getD_eq_getElem?_getD, List.getElem?_eq_getElem hi]; rfl
 rw [filter_all (ss := ss.take i), e]
 · simp [full]
 · intro x hx
   obtain ⟨j, hj, e⟩ := List.getElem_of_mem hx
   have hj' : j < i := by simp at hj; omega
   have := hb j hj'
   rw [List.getD_eq_getElem?_getD, List.getElem?_eq_getElem (by omega)] at this
   rw [← e, List.getElem_take]
   exact this
theorem filter_next {ss : List ByteArray} {j : Nat} (hj : j < ss.length) : (ss.take (j + 1)).filter full = (ss.take j).filter full ++ (if ss.getD j noT = noT then [] else [ss.getD j noT]) := by
 rw [List.take_add_one, List.getElem?_eq_getElem hj, List.filter_append, List.getD_eq_getElem?_getD, List.getElem?_eq_getElem hj]
 by_cases h : ss[j] = noT
 · simp [full, h]
 · simp [full, h]
def Del (ss ys : List ByteArray) (i j : Nat) : Prop := ys.length = ss.length ∧ i < j ∧ j ≤ ss.length ∧ ys.take i = (ss.take j).filter full ∧ ys.drop j = ss.drop j
theorem Del.step {ss ys : List ByteArray} {i j : Nat} (h : Del ss ys i j) (hj : j < ss.length) : ys.getD j noT = ss.getD j noT ∧ (ss.getD j noT = noT → Del ss ys i (j + 1)) ∧ (¬ ss.getD j noT = noT → Del ss (ys.set i (ss.getD j noT)) (i + 1) (j + 1)) := by
 obtain ⟨h1, h2, h3, h4, h5⟩ := h
 have e : ys.getD j noT = ss.getD j noT := by
  have := congrArg (fun l => l.getD 0 noT) h5
  simpa [List.getD_eq_getElem?_getD] using this
 have hd : ys.drop (j + 1) = ss.drop (j + 1) := by
  have := congrArg (List.drop 1) h5
  simpa [List.drop_drop, Nat.add_comm] using this
 refine ⟨e, fun h0 => ⟨h1, by omega, by omega, by rw [h4, filter_next hj, if_pos h0, List.append_nil], hd⟩, fun h0 => ⟨by simp [h1], by omega, by omega, ?_, ?_⟩⟩
 · rw [filter_next hj, if_neg h0, ← h4, List.take_add_one, List.take_set_of_le (by omega), List.getElem?_set_self (by omega)]
   rfl
 · rw [List.drop_set_of_lt (by omega), hd]
set_option maxRecDepth 100000 in
set_option maxHeartbeats 8000000 in
theorem delete_strs {base : Nat} {w : World} {a : Option Addr} {c : Nat} {ss : List ByteArray} (h : OwS base w (.slice a ss.length c) ss) (hl : ss.length ≤ 1000000) :
    Calls Tryz.prog 58 #[.slice a ss.length c, .func (.func 59) #[] #[]] w fun e w' => ∃ v', e = .returned v' ∧ OwS base w' v' (ss.filter full) ∧ w.grownBy w' (Value.slice a ss.length c).ownBlock := by
 have HO : Hid (OwS base w (.slice a ss.length c) ss) := h
 have hR := RdS.of_row h
 clear h
 go_enter Tryz.func58, Tryz.ntmps58
 go_wp2_with fail
 refine (index_strs hR hl).mono ?_
 rintro e w' ⟨r, rfl, hI, hw⟩
 obtain rfl := hw.symm
 rcases hI with ⟨rfl, hall⟩ | ⟨i0, rfl, hi, h0, hb⟩
 · have HF : Hid (ss.filter full = ss) := filter_all hall
   clear hall hR
   go_wp2
   go_ret
   exact ⟨_, rfl, by rw [HF.out]; exact HO.out, World.grownBy.refl _ _⟩
 have HD : Hid (Del ss ss i0 (i0 + 1)) := ⟨rfl, by omega, by omega, (filter_first hi h0 hb).symm, rfl⟩
 obtain ⟨g, rfl, hc1, hc2, hg⟩ := row_ptrS HO.out (by omega)
 have hne : ((i0 : Int) == -1) = false := by rw [beq_eq_false_iff_ne]; omega
 clear h0 hb hR
 go_wp2
 go_loopw [5, 6] (fun iv jv wr => ∃ (i j : Nat) (ys : List ByteArray), iv = .int .i64 i ∧ jv = .int .i64 j ∧ Hid (Del ss ys i j) ∧ i < j ∧ j ≤ ss.length ∧ wr.ownsRow base 9 1 (.slice (some ⟨g, 0, none⟩) ss.length c) ss.length (ys.map Value.string) ∧ w.grownBy wr (some g)) (fun _ jv _ => ss.length - (intOf jv).toNat)
 case atStart => exact ⟨i0, i0 + 1, ss, rfl, by go_num, HD, by omega, by omega, HO.out, World.grownBy.refl _ _⟩
 case round =>
  obtain ⟨i, j, ys, rfl, rfl, HDr, hij, hjl, hO, hgr⟩ := hrel
  by_cases hlt : j < ss.length
  · obtain ⟨e1, e2, e3⟩ := HDr.out.step hlt
    have E2 : Hid (ss.getD j noT = noT → Del ss ys i (j + 1)) := e2
    have E3 : Hid (¬ ss.getD j noT = noT → Del ss (ys.set i (ss.getD j noT)) (i + 1) (j + 1)) := e3
    have q := (owS_cells hO hlt).1
    obtain ⟨qi, fi, _⟩ := owS_cells hO (show i < ss.length by omega)
    rw [e1] at q
    generalize ss.getD j noT = x at *
    generalize ys.getD i noT = y at *
    clear e1 e2 e3
    go_wp2_with fail
    refine (isNo_any x wr).mono ?_
    rintro e w' ⟨rfl, hw⟩
    obtain rfl := hw.symm
    by_cases hno : x = noT
    · have HD2 : Hid (Del ss ys i (j + 1)) := E2.out hno
      rw [decide_eq_true hno]
      clear E2 E3 hno q qi fi
      go_wp2
      go_roundw
      case rel => exact ⟨i, j + 1, ys, rfl, by go_num, HD2, by omega, by omega, hO, hgr⟩
      case measure => simp [intOf]; omega
    · have HD2 : Hid (Del ss (ys.set i x) (i + 1) (j + 1)) := E3.out hno
      rw [decide_eq_false hno]
      have hO2 := owS_set hO x (show i < ss.length by omega)
      have hgr2 : w.grownBy (wr.setCell ⟨g, i, none⟩ (.string x)) (some g) := setCells_grown [.string x] i hgr
      clear E2 E3 hno q
      go_wp2
      go_roundw
      case rel => exact ⟨i + 1, j + 1, ys.set i x, by go_num, by go_num, HD2, by omega, by omega, hO2, hgr2⟩
      case measure => simp [intOf]; omega
  obtain rfl : j = ss.length := by omega
  have HF : Hid (ys.take i = ss.filter full) := by
   have := HDr.out.2.2.2.1
   rw [List.take_length] at this
   exact this
  have hi2 : i < ss.length := hij
  have hcl := fun ty => Lib.run_clear_slice (P := Tryz.prog) wr 25 9 ty (.string ⟨#[]⟩) Tryz.underlying25 (fun w => by kernel_rfl) rfl rfl g i (ss.length - i) (c - i) (by omega) (fun j hj => by rw [(owS_cells hO (show i + j < ss.length by omega)).1]; rfl) (fun j hj => (owS_cells hO (show i + j < ss.length by omega)).2.1)
  have hO3 := owS_clear hO (Nat.le_of_lt hi2) (List.replicate (ss.length - i) (.string ⟨#[]⟩))
  have hgr3 := setCells_grown (List.replicate (ss.length - i) (.string ⟨#[]⟩)) i hgr
  have HN : Hid ((ys.take i).length = i) := by
   unfold Hid
   rw [List.length_take, HDr.out.1]
   omega
  clear HDr
  go_wp2
  go_ret
  refine ⟨_, rfl, ?_, hgr3⟩
  unfold OwS
  rw [← HF.out, HN.out]
  exact hO3
end Go.Proofs.YtimfnalpmmkndaaGreatDoor
