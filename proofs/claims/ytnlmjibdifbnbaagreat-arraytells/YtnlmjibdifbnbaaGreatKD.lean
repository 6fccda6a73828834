/- Characters that are written as bytes are read again. -/
import Derived.Test.YtnlmjibdifbnbaaGreatKC
import Derived.Test.YtnlmjibdifbnbaaGreatK7
import Derived.Test.YtnlmjibdifbnbaaGreatKA
import Derived.Test.YtnlmjibdifbnbaaGreatK8
import Derived.Test.YtnlmjibdifbnbaaGreatK12
namespace Go.Proofs.YtnlmjibdifbnbaaGreat
set_option linter.unusedVariables false
set_option linter.unusedSimpArgs false
open Go.RowKit

theorem enc_list (c : Int) (hc : okRune c) : (Utf8.encode c).data.toList =
    if c.toNat < 128 then [UInt8.ofNat c.toNat] else if c.toNat < 2048 then [UInt8.ofNat (192 + c.toNat / 64), UInt8.ofNat (128 + c.toNat % 64)]
    else if c.toNat < 65536 then [UInt8.ofNat (224 + c.toNat / 4096), UInt8.ofNat (128 + c.toNat / 64 % 64), UInt8.ofNat (128 + c.toNat % 64)]
    else [UInt8.ofNat (240 + c.toNat / 262144), UInt8.ofNat (128 + c.toNat / 4096 % 64), UInt8.ofNat (128 + c.toNat / 64 % 64), UInt8.ofNat (128 + c.toNat % 64)] := by
  have hv : Utf8.valid c = true := by
    unfold okRune at hc
    simp [Utf8.valid]
    omega
  unfold Utf8.encode
  simp only [hv, if_true]
  repeat' split
  all_goals rfl
theorem okRune_le {c : Int} (hc : okRune c) : c.toNat ≤ 1114111 ∧ (c.toNat < 55296 ∨ 57344 ≤ c.toNat) := by
  unfold okRune at hc
  omega
theorem nat_byte (n : Nat) (h : n < 256) : (UInt8.ofNat n).toNat = n := by simp; omega
set_option maxRecDepth 100000 in
set_option maxHeartbeats 4000000 in
theorem enc_dec (c : Int) (hc : okRune c) (t : List UInt8) : Lib.decodeL ((Utf8.encode c).data.toList ++ t) = (c.toNat, (Utf8.encode c).data.toList.length) := by
  have hr := okRune_le hc
  rw [enc_list c hc]
  generalize c.toNat = n at *
  by_cases h1 : n < 128
  · rw [if_pos h1, Lib.decodeL_N]
    simp only [List.cons_append, List.nil_append, List.getD_cons_zero, List.length_cons, List.length_nil]
    rw [nat_byte n (by omega)]
    unfold Lib.decodeN
    rw [if_pos h1]
  rw [if_neg h1]
  by_cases h2 : n < 2048
  · rw [if_pos h2, Lib.decodeL_N]
    simp only [List.cons_append, List.nil_append, List.getD_cons_zero, List.getD_cons_succ, List.length_cons, List.length_nil]
    rw [nat_byte (192 + n / 64) (by omega), nat_byte (128 + n % 64) (by omega)]
    unfold Lib.decodeN
    rw [if_neg (by omega), if_pos (by omega), if_pos (by omega)]
    apply Prod.ext <;> simp only <;> omega
  rw [if_neg h2]
  by_cases h3 : n < 65536
  · rw [if_pos h3, Lib.decodeL_N]
    simp only [List.cons_append, List.nil_append, List.getD_cons_zero, List.getD_cons_succ, List.length_cons, List.length_nil]
    rw [nat_byte (224 + n / 4096) (by omega), nat_byte (128 + n / 64 % 64) (by omega), nat_byte (128 + n % 64) (by omega)]
    unfold Lib.decodeN
    rw [if_neg (by omega), if_neg (by omega), if_pos (by omega), if_pos (by omega)]
    apply Prod.ext <;> simp only <;> omega
  rw [if_neg h3, Lib.decodeL_N]
  simp only [List.cons_append, List.nil_append, List.getD_cons_zero, List.getD_cons_succ, List.length_cons, List.length_nil]
  rw [nat_byte (240 + n / 262144) (by omega), nat_byte (128 + n / 4096 % 64) (by omega), nat_byte (128 + n / 64 % 64) (by omega), nat_byte (128 + n % 64) (by omega)]
  unfold Lib.decodeN
  rw [if_neg (by omega), if_neg (by omega), if_neg (by omega), if_pos (by omega), if_pos (by omega)]
  apply Prod.ext <;> simp only <;> omega
theorem enc_len (c : Int) (hc : okRune c) : 1 ≤ (Utf8.encode c).data.toList.length ∧ (Utf8.encode c).data.toList.length ≤ 4 ∧ (c.toNat = 65533 → (Utf8.encode c).data.toList.length = 3) := by
  rw [enc_list c hc]
  repeat' split
  all_goals simp
  all_goals omega
theorem runesBytes_nil : (runesBytes []).data.toList = [] := rfl
theorem scan_from (s : ByteArray) : ∀ (l : List Int) (pre : List UInt8) (acc : List Int) (f : Nat), (∀ c ∈ l, okRune c) → s.data.toList = pre ++ (runesBytes l).data.toList → s.size ≤ pre.length + f → scanR s f pre.length acc = (acc ++ l, 0, 0)
  | [], pre, acc, f, _, hs, hf => by
    have hsz : s.data.toList.length = s.size := by simp
    rw [runesBytes_nil, List.append_nil] at hs
    rw [hs] at hsz
    cases f with
    | zero => rw [scanR, List.append_nil]
    | succ f => rw [scanR, if_neg (by omega), List.append_nil]
  | c :: l, pre, acc, f, hok, hs, hf => by
    have hc := hok c (by simp)
    have hlen := enc_len c hc
    have hsz : s.data.toList.length = s.size := by simp
    rw [runesBytes_cons] at hs
    have hl := congrArg List.length hs
    rw [List.length_append, List.length_append, hsz] at hl
    have hd : Utf8.decode s pre.length = (c.toNat, (Utf8.encode c).data.toList.length) := by
      rw [← Lib.decodeL_drop, hs, List.drop_left]
      exact enc_dec c hc _
    obtain ⟨f, rfl⟩ : ∃ g, f = g + 1 := ⟨f - 1, by omega⟩
    have hcn : ((c.toNat : Nat) : Int) = c := by unfold okRune at hc; omega
    rw [scanR, if_pos (by omega), hd]
    simp only
    rw [if_neg (fun h => by have := hlen.2.2 h.1; omega), hcn]
    have e : pre.length + (Utf8.encode c).data.toList.length = (pre ++ (Utf8.encode c).data.toList).length := by simp
    rw [e, scan_from s l (pre ++ (Utf8.encode c).data.toList) (acc ++ [c]) f (fun d hd => hok d (by simp [hd])) (by rw [hs, List.append_assoc]) (by rw [List.length_append]; omega)]
    simp
/-- The characters of what was written. -/
theorem scan_back (l : List Int) (hok : ∀ c ∈ l, okRune c) : scanR (runesBytes l) (runesBytes l).size 0 [] = (l, 0, 0) := by
  have := scan_from (runesBytes l) l [] [] (runesBytes l).size hok (by simp) (by simp)
  simpa using this
end Go.Proofs.YtnlmjibdifbnbaaGreat

/- lex.next from any place: what the token there is. -/
namespace Go.Proofs.YtnlmjibdifbnbaaGreat
set_option linter.unusedVariables false
set_option linter.unusedSimpArgs false
open Go.RowKit Go.Shelf

def prims : ByteArray := ⟨#[43, 45, 195, 151, 195, 183, 226, 140, 136, 226, 140, 138, 124, 42, 33, 126, 60, 226, 137, 164, 61, 226, 137, 165, 62, 226, 137, 160, 226, 136, 167, 226, 136, 168, 226, 141, 178, 226, 141, 177, 226, 141, 180, 44, 226, 141, 170, 226, 134, 145, 226, 134, 147, 226, 140, 189, 226, 138, 150, 226, 141, 137, 47, 226, 140, 191, 92, 226, 141, 128, 226, 141, 179, 226, 136, 138, 226, 141, 139, 226, 141, 146, 226, 136, 170, 226, 138, 130, 226, 138, 131, 226, 137, 161, 226, 137, 162, 226, 138, 164, 226, 138, 165, 226, 140, 183, 226, 141, 142, 226, 141, 149, 194, 168, 226, 136, 152, 46, 226, 141, 168]⟩
def sgns : ByteArray := ⟨#[40, 41, 91, 93, 59, 123, 125, 226, 134, 144, 226, 134, 146, 226, 139, 132, 58, 226, 136, 135, 226, 141, 186, 226, 141, 181]⟩
/-- ne tells the error of each number's text. -/
def TellsErr (ne : ByteArray → Int) : Prop := ∀ T b ns ds e, TextSpec T b ns ds e → ne T = e
theorem tellsErr_ex : ∃ ne, TellsErr ne := by
  have h : ∀ T : ByteArray, ∃ e : Int, ∀ b ns ds f, TextSpec T b ns ds f → e = f := fun T => by
    by_cases hx : ∃ e b ns ds, TextSpec T b ns ds e
    · obtain ⟨e, b, ns, ds, h⟩ := hx
      exact ⟨e, fun b' ns' ds' f h' => ((h.unique h').2.2.2).symm⟩
    · exact ⟨0, fun b ns ds f h => absurd ⟨f, b, ns, ds, h⟩ hx⟩
  exact ⟨fun T => Classical.choose (h T), fun T b ns ds e he => Classical.choose_spec (h T) b ns ds e he⟩
/-- The token at a place: its kind, its end, and an error. -/
def nextF (ne : ByteArray → Int) (cs : List Int) (i : Nat) : Int × Nat × Int :=
  if cs.getD i 0 = 175 ∨ dg (cs.getD i 0) = true then (1, runEnd inn cs (i + 1), ne (cutText cs i (runEnd inn cs (i + 1))))
  else if cs.getD i 0 = 39 then (match qscan cs cs.length (i + 1) [] with | some p => (2, p.2, 0) | none => (0, 0, 26))
  else if bn (cs.getD i 0) = true then (if runEnd inm cs i - i ≤ 32 then (3, runEnd inm cs i, 0) else (0, 0, 27))
  else if cs.getD i 0 = 9109 then (4, runEnd lt cs (i + 1), 0)
  else if cs.getD i 0 ∈ decs prims prims.size 0 then (5, i + 1, 0)
  else if cs.getD i 0 ∈ decs sgns sgns.size 0 then (6, i + 1, 0) else (0, 0, 26)
/-- A token with some array, its end, and no error; or an error. -/
def TokIs (w : World) (cs : List Int) (i : Nat) (r : Int × Nat × Int) (e : Ending) (w' : World) : Prop :=
  (r.2.2 = 0 ∧ ∃ a1 n1 c1 a2 n2 c2, e = .returned (.tuple #[.agg #[.int .u8 r.1, .string (cutText cs i r.2.1), .int .i64 i, .slice a1 n1 c1, .slice a2 n2 c2], .int .i64 r.2.1, .int .i64 0]) ∧ Below w.heap.size w w') ∨
  (¬ r.2.2 = 0 ∧ e = .returned (.tuple #[.agg #[.int .u8 0, .string ⟨#[]⟩, .int .i64 0, .slice none 0 0, .slice none 0 0], .int .i64 0, .int .i64 r.2.2]) ∧ Below w.heap.size w w')

section
variable {w : World} {cs : List Int} {b off cap : Nat} {ne : ByteArray → Int}
end
end Go.Proofs.YtnlmjibdifbnbaaGreat

/- The arrays of tokens. -/
namespace Go.Proofs.YtnlmjibdifbnbaaGreat
set_option linter.unusedVariables false
set_option linter.unusedSimpArgs false
open Go.RowKit Go.Shelf

/-- An array without boxes, in blocks of its own from base on: cells of ints, limbs, items. -/
def TA (base : Nat) (W : World) (x1 : Option Addr) (n1 y1 : Nat) (x2 : Option Addr) (n2 y2 : Nat) (t : Tr) : Prop :=
  ∃ D : Nat → Prop, (∀ g, D g → base ≤ g ∧ ∃ o, W.heap[g]? = some o ∧ o.isCells = true ∧ (tyOf o = some 3 ∨ tyOf o = some 42 ∨ tyOf o = some 71)) ∧ ArV 1 D W (.slice x1 n1 y1) (.slice x2 n2 y2) t
section
variable {base base' : Nat} {W W' : World} {x1 x2 : Option Addr} {n1 y1 n2 y2 : Nat} {t : Tr}
theorem TA.mono (h : TA base W x1 n1 y1 x2 n2 y2 t) (hb : base' ≤ base) : TA base' W x1 n1 y1 x2 n2 y2 t := by
  obtain ⟨D, h1, h2⟩ := h
  exact ⟨D, fun g hg => ⟨Nat.le_trans hb (h1 g hg).1, (h1 g hg).2⟩, h2⟩
theorem TA.same (h : TA base W x1 n1 y1 x2 n2 y2 t) (hw : ∀ g o, base ≤ g → W.heap[g]? = some o → o.isCells = true → (tyOf o = some 3 ∨ tyOf o = some 42 ∨ tyOf o = some 71) → W'.heap[g]? = W.heap[g]?) : TA base W' x1 n1 y1 x2 n2 y2 t := by
  obtain ⟨D, h1, h2⟩ := h
  have hA : Agree D W W' := fun g hg => by obtain ⟨a, o, b, c, d⟩ := h1 g hg; exact hw g o a b c d
  exact ⟨D, fun g hg => by obtain ⟨a, o, b, c, d⟩ := h1 g hg; exact ⟨a, o, (hw g o a b c d).trans b, c, d⟩, h2.agree hA⟩
theorem TA.below (h : TA base W x1 n1 y1 x2 n2 y2 t) (hb : Below W.heap.size W W') : TA base W' x1 n1 y1 x2 n2 y2 t :=
  h.same (fun g o _ ho _ _ => hb.block g (Array.getElem?_eq_some_iff.1 ho).1)
theorem TA.set (h : TA base W x1 n1 y1 x2 n2 y2 t) (p : Addr) (hp : p.block < base) (u : Value) : TA base (W.setCell p u) x1 n1 y1 x2 n2 y2 t :=
  h.same (fun g o hg _ _ _ => Below.heap_setCell _ _ _ _ (by omega))
end
theorem rdN_nil (D : Nat → Prop) (W : World) : RdN D W (.slice none 0 0) [] := ⟨(fun x h => by cases h), none, 0, rfl, Nat.le_refl _, by omega, fun _ => rfl, Or.inl rfl⟩
theorem rdL_nil (D : Nat → Prop) (W : World) : RdL D W (.slice none 0 0) [] := ⟨lim_nil, none, 0, rfl, Nat.le_refl _, by omega, fun _ => rfl, Or.inl rfl⟩
theorem rowB_nil (D : Nat → Prop) (C : Nat → Nat → Nat → Prop) : RowB D 0 (.slice none 0 0) C := ⟨none, 0, rfl, Nat.le_refl _, by omega, fun _ => rfl, Or.inl rfl⟩
/-- No array at all. -/
theorem TA.none (base : Nat) (W : World) : TA base W none 0 0 none 0 0 (arrT [] []) :=
  ⟨fun _ => False, fun g h => h.elim, rdN_nil _ _, rowB_nil _ _⟩
theorem BoxA.is {w : World} {B ty : Nat} {xs : Array Value} (h : BoxA w B ty xs) : ∃ o, w.heap[B]? = some o ∧ o.isCells = true ∧ tyOf o = some ty := ⟨_, h, rfl, rfl⟩
/-- Limbs of one's own. -/
theorem own_ty {base : Nat} {w : World} {v : Value} {xs : List Int} (h : Own base w v xs) : RdL (fun g => base ≤ g ∧ ∃ o, w.heap[g]? = some o ∧ o.isCells = true ∧ tyOf o = some 71) w v xs := by
  obtain ⟨h0, hl, h | ⟨g, cap, cur, rfl, hg, hh, h1, h2, h3, h4⟩⟩ := h
  · obtain ⟨rfl, hz⟩ := h
    have : xs = [] := List.eq_nil_of_length_eq_zero hz
    subst this
    exact rdL_nil _ _
  · refine ⟨h0, _, cap, rfl, h1, by unfold maxLen at h2; omega, (fun h => by cases h), Or.inr ⟨g, 0, rfl, ⟨hg, _, hh, rfl, rfl⟩, fun j hj => ?_⟩⟩
    have e : cur.toList[j]? = (xs.map (Value.int .u32))[j]? := by rw [← h4, List.getElem?_take]; simp; omega
    rw [getD_map_u32 xs j hj] at e
    simp only [World.cell?, hh, Nat.zero_add]
    simpa using e
/-- A scalar of a number. -/
theorem NumAt.ta {base : Nat} {w : World} {k : Nat} {b : Bool} {ns ds : List Int} (h : NumAt base w k b ns ds) : TA base w none 0 0 (some ⟨k, 0, none⟩) 1 1 (arrT [] [numT b ns ds]) := by
  obtain ⟨h0, z1, y1, z2, y2, hB, o1, o2⟩ := h
  refine ⟨fun g => base ≤ g ∧ ∃ o, w.heap[g]? = some o ∧ o.isCells = true ∧ (tyOf o = some 3 ∨ tyOf o = some 42 ∨ tyOf o = some 71), fun g hg => hg, rdN_nil _ _, _, 1, rfl, Nat.le_refl _, by omega, (fun h => by cases h), Or.inr ⟨k, 0, rfl, ⟨h0, _, hB, rfl, Or.inr (Or.inl rfl)⟩, fun j hj => ?_⟩⟩
  obtain rfl : j = 0 := by simp [arrT, Tr.kids] at hj; omega
  obtain ⟨r0, r1, r2, r3, r4, r5⟩ := hB.num
  have hD : ∀ g, (base ≤ g ∧ ∃ o, w.heap[g]? = some o ∧ o.isCells = true ∧ tyOf o = some 71) → base ≤ g ∧ ∃ o, w.heap[g]? = some o ∧ o.isCells = true ∧ (tyOf o = some 3 ∨ tyOf o = some 42 ∨ tyOf o = some 71) := fun g ⟨a, o, p, q, r⟩ => ⟨a, o, p, q, Or.inr (Or.inr r)⟩
  exact ⟨z1, y1, z2, y2, _, 0, ⟨r0, r1, r2, r3, r4, r5⟩, (own_ty o1).imp hD (fun _ _ => rfl), (own_ty o2).imp hD (fun _ _ => rfl), rowB_nil _ _⟩
/-- A character's item. -/
theorem ch_item {P : Value → Value → Tr → Prop} {D : Nat → Prop} {w : World} {g o : Nat} {c : Int} (h : ∀ k u, (chCells c)[k]? = some u → w.cell? ⟨g, o + k, none⟩ = some u) : ItC P D w g o (charT c) :=
  ⟨none, 0, none, 0, none, 0, ⟨h 0 _ rfl, h 1 _ rfl, h 2 _ rfl, h 3 _ rfl, h 4 _ rfl, h 5 _ rfl⟩, rdL_nil _ _, rdL_nil _ _, rowB_nil _ _⟩
theorem box_ch {P : Value → Value → Tr → Prop} {D : Nat → Prop} {w : World} {k : Nat} {c : Int} (h : BoxA w k 42 #[.int .u8 2, .bool false, .slice none 0 0, .slice none 0 0, .int .i32 c, .slice none 0 0]) : ItC P D w k 0 (charT c) :=
  ⟨none, 0, none, 0, none, 0, ⟨h.cell 0 rfl, h.cell 1 rfl, h.cell 2 rfl, h.cell 3 rfl, h.cell 4 rfl, h.cell 5 rfl⟩, rdL_nil _ _, rdL_nil _ _, rowB_nil _ _⟩
/-- A scalar of a character. -/
theorem charBox_ta {base : Nat} {w : World} {k : Nat} {c : Int} (hk : base ≤ k) (h : BoxA w k 42 #[.int .u8 2, .bool false, .slice none 0 0, .slice none 0 0, .int .i32 c, .slice none 0 0]) : TA base w none 0 0 (some ⟨k, 0, none⟩) 1 1 (arrT [] [charT c]) := by
  refine ⟨fun g => g = k, fun g hg => ?_, rdN_nil _ _, _, 1, rfl, Nat.le_refl _, by omega, (fun h => by cases h), Or.inr ⟨k, 0, rfl, rfl, fun j hj => ?_⟩⟩
  · subst hg
    obtain ⟨o, a, b, c⟩ := h.is
    exact ⟨hk, o, a, b, Or.inr (Or.inl c)⟩
  · obtain rfl : j = 0 := by simp [arrT, Tr.kids] at hj; omega
    exact box_ch h
theorem ch_flat {ys : List Int} {i : Nat} (hi : i < ys.length) (k : Nat) (hk : k < 6) : (ys.flatMap chCells)[6 * i + k]? = (chCells (ys.getD i 0))[k]? := by
  induction ys generalizing i with
  | nil => simp at hi
  | cons x xs ih =>
    rw [List.flatMap_cons]
    cases i with
    | zero => rw [Nat.mul_zero, Nat.zero_add, List.getElem?_append_left (by simpa [chCells] using hk)]; rfl
    | succ i =>
      rw [List.getElem?_append_right (by simp [chCells]; omega)]
      have e : 6 * (i + 1) + k - (chCells x).length = 6 * i + k := by simp [chCells]; omega
      rw [e, ih (by simpa using hi)]
      simp
/-- The array of characters in quotes. -/
def vecA (ys : List Int) : Tr := arrT [(ys.length : Int)] (if ys = [] then [charT 32] else ys.map charT)
def qA (acc : List Int) : Tr := if acc.length = 1 then arrT [] [charT (acc.getD 0 0)] else vecA acc
theorem TextAt.ta {base : Nat} {w : World} {v : Value} {ys : List Int} (h : TextAt base w v ys) (hl : ys.length ≤ 1000000) : ∃ x1 n1 y1 x2 n2 y2, v = .agg #[.slice x1 n1 y1, .slice x2 n2 y2] ∧ TA base w x1 n1 y1 x2 n2 y2 (vecA ys) := by
  obtain ⟨g1, v2, rfl, h1, h2, h3⟩ := h.form
  have hsh : ∀ D : Nat → Prop, D g1 → RdN D w (.slice (some ⟨g1, 0, none⟩) 1 1) [(ys.length : Int)] := fun D hD => by
    refine ⟨fun x hx => by rw [List.mem_singleton.1 hx]; omega, _, 1, rfl, Nat.le_refl _, by omega, (fun h => by cases h), Or.inr ⟨g1, 0, rfl, hD, fun j hj => ?_⟩⟩
    obtain rfl : j = 0 := by simp at hj; omega
    exact h2.cell 0 rfl
  rcases h3 with ⟨rfl, g2, rfl, h4, h5⟩ | ⟨hne, h4⟩
  · refine ⟨_, _, _, _, _, _, rfl, fun g => g = g1 ∨ g = g2, fun g hg => ?_, hsh _ (Or.inl rfl), _, 1, rfl, Nat.le_refl _, by omega, (fun h => by cases h), Or.inr ⟨g2, 0, rfl, Or.inr rfl, fun j hj => ?_⟩⟩
    · rcases hg with rfl | rfl
      · obtain ⟨o, a, b, c⟩ := h2.is
        exact ⟨h1, o, a, b, Or.inl c⟩
      · obtain ⟨o, a, b, c⟩ := h5.is
        exact ⟨h4, o, a, b, Or.inr (Or.inl c)⟩
    · obtain rfl : j = 0 := by simp [vecA, arrT, Tr.kids] at hj; omega
      exact box_ch h5
  · obtain ⟨a, c, rfl⟩ := row_form2 h4
    have h0 : 0 < ys.length := List.length_pos_iff.2 hne
    have hrow := h4
    obtain ⟨_, hx | ⟨g, cap, cur, hv, hg, hh, c1, c2, _, _⟩⟩ := h4
    · omega
    · obtain ⟨rfl, _, rfl⟩ := Value.slice.inj hv
      have hk : (vecA ys).kids = ys.map charT := by unfold vecA arrT Tr.kids; simp only; rw [if_neg hne]
      have hkl : (vecA ys).kids.length = ys.length := by rw [hk]; simp
      refine ⟨_, _, _, _, _, _, rfl, fun q => q = g1 ∨ q = g, fun q hq => ?_, hsh _ (Or.inl rfl), ?_⟩
      · rcases hq with rfl | rfl
        · obtain ⟨o, a, b, c⟩ := h2.is
          exact ⟨h1, o, a, b, Or.inl c⟩
        · exact ⟨hg, _, hh, rfl, Or.inr (Or.inl rfl)⟩
      · refine ⟨_, c, by rw [hkl], by rw [hkl]; exact c1, by unfold maxLen at c2; omega, (fun h => by cases h), Or.inr ⟨g, 0, rfl, Or.inr rfl, fun j hj => ?_⟩⟩
        rw [hkl] at hj
        have e : (vecA ys).kids.getD j tr0 = charT (ys.getD j 0) := by rw [hk]; simp [List.getD, hj]
        rw [e]
        refine ch_item (fun k u hu => ?_)
        have hk6 : k < 6 := by
          refine Decidable.byContradiction fun hn => ?_
          rw [List.getElem?_eq_none (by simp [chCells]; omega)] at hu
          cases hu
        have := hrow.cellAt (6 * j + k) (by omega)
        rw [show 0 + j * 6 + k = 6 * j + k by omega, this, ch_flat hj k hk6]
        exact hu
theorem decs_from (s : ByteArray) : ∀ (l : List Int) (pre : List UInt8) (f : Nat), (∀ c ∈ l, okRune c) → s.data.toList = pre ++ (runesBytes l).data.toList → s.size ≤ pre.length + f → decs s f pre.length = l
  | [], pre, f, _, hs, hf => by
    have hsz : s.data.toList.length = s.size := by simp
    rw [runesBytes_nil, List.append_nil] at hs
    rw [hs] at hsz
    cases f with
    | zero => rw [decs]
    | succ f => rw [decs, if_neg (by omega)]
  | c :: l, pre, f, hok, hs, hf => by
    have hc := hok c (by simp)
    have hlen := enc_len c hc
    have hsz : s.data.toList.length = s.size := by simp
    rw [runesBytes_cons] at hs
    have hl := congrArg List.length hs
    rw [List.length_append, List.length_append, hsz] at hl
    have hd : Utf8.decode s pre.length = (c.toNat, (Utf8.encode c).data.toList.length) := by
      rw [← Lib.decodeL_drop, hs, List.drop_left]
      exact enc_dec c hc _
    obtain ⟨f, rfl⟩ : ∃ g, f = g + 1 := ⟨f - 1, by omega⟩
    have hcn : ((c.toNat : Nat) : Int) = c := by unfold okRune at hc; omega
    rw [decs, if_pos (by omega), hd]
    simp only
    rw [hcn]
    have e : pre.length + (Utf8.encode c).data.toList.length = (pre ++ (Utf8.encode c).data.toList).length := by simp
    rw [e, decs_from s l (pre ++ (Utf8.encode c).data.toList) f (fun d hd => hok d (by simp [hd])) (by rw [hs, List.append_assoc]) (by rw [List.length_append]; omega)]
theorem decs_back (l : List Int) (hok : ∀ c ∈ l, okRune c) : decs (runesBytes l) (runesBytes l).size 0 = l := by
  have := decs_from (runesBytes l) l [] (runesBytes l).size hok (by simp) (by simp)
  simpa using this
section
variable {w : World}
end
/-- na tells the array of each number's text. -/
def TellsArr (na : ByteArray → Tr) : Prop := ∀ T b ns ds, TextSpec T b ns ds 0 → (RightP b ns ds → na T = arrT [] [numT b ns ds]) ∧ (¬ RightP b ns ds → na T = arrT [] [numT false [] [1]])
theorem tellsArr_ex : ∃ na, TellsArr na := by
  have h : ∀ T : ByteArray, ∃ t : Tr, ∀ b ns ds, TextSpec T b ns ds 0 → (RightP b ns ds → t = arrT [] [numT b ns ds]) ∧ (¬ RightP b ns ds → t = arrT [] [numT false [] [1]]) := fun T => by
    by_cases hx : ∃ b ns ds, TextSpec T b ns ds 0
    · obtain ⟨b, ns, ds, h⟩ := hx
      by_cases hr : RightP b ns ds
      · refine ⟨arrT [] [numT b ns ds], fun b' ns' ds' h' => ?_⟩
        obtain ⟨rfl, rfl, rfl, _⟩ := h.unique h'
        exact ⟨fun _ => rfl, fun hn => absurd hr hn⟩
      · refine ⟨arrT [] [numT false [] [1]], fun b' ns' ds' h' => ?_⟩
        obtain ⟨rfl, rfl, rfl, _⟩ := h.unique h'
        exact ⟨fun hp => absurd hp hr, fun _ => rfl⟩
    · exact ⟨tr0, fun b ns ds h => absurd ⟨b, ns, ds, h⟩ hx⟩
  exact ⟨fun T => Classical.choose (h T), fun T b ns ds he => Classical.choose_spec (h T) b ns ds he⟩
/-- The array of a token, by its kind and text. -/
noncomputable def arrF (na : ByteArray → Tr) (kd : Int) (tx : ByteArray) : Tr :=
  if kd = 1 then na tx else if kd = 2 then (match qscan (scanR tx tx.size 0 []).1 (scanR tx tx.size 0 []).1.length 1 [] with | some p => qA p.1 | none => arrT [] []) else arrT [] []
end Go.Proofs.YtnlmjibdifbnbaaGreat

/- ref03.Items of a right array; the arrays of texts in quotes are right. -/
namespace Go.Proofs.YtnlmjibdifbnbaaGreat
set_option linter.unusedVariables false
set_option linter.unusedSimpArgs false
open Go.RowKit

section
variable {D : Nat → Prop} {f : Nat} {W : World} {x1 : Option Addr} {n1 y1 : Nat} {x2 : Option Addr} {n2 y2 : Nat} {t : Tr}
set_option maxRecDepth 100000 in
set_option maxHeartbeats 6400000 in
theorem refItems3_any (hD : ∀ g, D g → g < W.heap.size) (h : ArV f D W (.slice x1 n1 y1) (.slice x2 n2 y2) t) (hS : smF f t) (hR : (measF 16 t).isSome = true) :
    Calls Tryz.prog 19 #[.agg #[.slice x1 n1 y1, .slice x2 n2 y2]] W fun e w' => (((sizeF t.ns).1 = 0 ∧ e = .returned (.slice none 0 0)) ∨ (¬ (sizeF t.ns).1 = 0 ∧ ∃ z1 m1 u1 z2 m2 u2, e = .returned (.slice z2 m2 u2) ∧ ArV f (Fr W.heap.size w'.heap.size) w' (.slice z1 m1 u1) (.slice z2 m2 u2) t)) ∧ Below W.heap.size W w' := by
  obtain ⟨f, rfl⟩ : ∃ g, f = g + 1 := by
    cases f with
    | zero => exact h.elim
    | succ g => exact ⟨g, rfl⟩
  obtain rfl := h.1.len
  have k0 := below_alloc W (.cells #[.slice x1 t.ns.length y1, .slice x2 n2 y2] 25)
  have X0 := boxA_new W #[.slice x1 t.ns.length y1, .slice x2 n2 y2] 25
  have s0 : W.heap.size < (W.alloc (.cells #[.slice x1 t.ns.length y1, .slice x2 n2 y2] 25)).heap.size := by simp
  have z0 := X0.cell 0 rfl
  have z1 := X0.cell 1 rfl
  have H : Hid (ArV (f + 1) D W (.slice x1 t.ns.length y1) (.slice x2 n2 y2) t) := h
  have HD : Hid (∀ g, D g → g < W.heap.size) := hD
  have HSM : Hid (smF (f + 1) t) := hS
  obtain ⟨L', hL', m1, m2, m3, m4, m5⟩ := measF_some hR
  have HR : Hid ((measF 16 t).isSome = true) := hR
  have HZ : Hid ((sizeF t.ns).2 = 0) := m2
  clear h hD hR hS m1 m2 m3 m4 m5 hL'
  go_enter Tryz.func19, Tryz.ntmps19
  go_wp2_with fail
  generalize hA : W.alloc (.cells #[.slice x1 t.ns.length y1, .slice x2 n2 y2] 25) = v at *
  clear hA
  refine (refSize3_any ((H.out.agree (Agree.of k0 HD.out)).1) (fun g hg => by have := HD.out g hg; omega)).mono ?_
  rintro e w1 ⟨rfl, hw⟩
  obtain rfl := hw.symm
  rw [HZ.out]
  by_cases hn : (sizeF t.ns).1 = 0
  · have HN0 : Hid ((sizeF t.ns).1 = 0) := hn
    have e0 : ((sizeF t.ns).1 == 0) = true := by rw [beq_iff_eq]; exact hn
    clear hn
    go_wp2
    go_ret
    exact ⟨Or.inl ⟨HN0.out, rfl⟩, k0⟩
  have e0 : ((sizeF t.ns).1 == 0) = false := by rw [beq_eq_false_iff_ne]; exact hn
  have HN0 : Hid (¬ (sizeF t.ns).1 = 0) := hn
  clear hn
  go_wp2_with fail
  refine (refRight3_any (fun g hg => by have := HD.out g hg; omega) (H.out.agree (Agree.of k0 HD.out))).mono ?_
  rintro e w1 ⟨rfl, q1⟩
  rw [HR.out]
  have X1 := X0.below q1 s0
  have l1 := X1.lt
  have k1 : Below W.heap.size W w1 := k0.trans (q1.mono (by omega))
  have v0 := X1.cell 0 rfl
  have v1 := X1.cell 1 rfl
  clear z0 z1
  go_wp2_with fail
  refine (refCopy3_any (H.out.agree (Agree.of k1 HD.out)) (fun g hg => by have := HD.out g hg; omega) HSM.out).mono ?_
  rintro e w2 ⟨z1, m1, u1, z2, m2, u2, rfl, hv, q2⟩
  have HV : Hid (ArV (f + 1) (Fr w1.heap.size w2.heap.size) w2 (.slice z1 m1 u1) (.slice z2 m2 u2) t) := hv
  have k2 : Below W.heap.size W w2 := k1.trans (q2.mono (by omega))
  have hfl : (Instr.field 25 (.agg #[.slice z1 m1 u1, .slice z2 m2 u2]) 1).run Tryz.prog w2 = .ok (.slice z2 m2 u2) w2 := by kernel_rfl
  clear hv
  go_wp2
  go_ret
  exact ⟨Or.inr ⟨HN0.out, _, _, _, _, _, _, rfl, HV.out.mono (fun g hg => ⟨by have := hg.1; omega, hg.2⟩)⟩, k2⟩
end
theorem char_meas {c : Int} (M : Tr → Option (Int × Int)) (hc : okRune c) : measI M (charT c) = some (0, 0) := by
  unfold measI
  rw [if_neg (show ¬ (charT c).k = 1 from (by decide : ¬ (2 : Int) = 1)), if_pos (show (charT c).k = 2 from rfl), if_pos ⟨by unfold okRune at hc; show okR c; unfold okR; omega, rfl, rfl⟩]
/-- The array of a text in quotes is right, and holds the characters. -/
theorem qA_right {cs : List Int} (hok : ∀ c ∈ cs, okRune c) (hl : cs.length ≤ 1024) : (measF 16 (qA cs)).isSome = true ∧ smF 1 (qA cs) ∧ (sizeF (qA cs).ns).1 = (cs.length : Int) ∧ (¬ cs.length = 0 → (qA cs).kids = cs.map charT) := by
  have h32 : okRune 32 := by unfold okRune; omega
  unfold qA
  by_cases h1 : cs.length = 1
  · rw [if_pos h1]
    obtain ⟨c, rfl⟩ : ∃ c, cs = [c] := List.length_eq_one_iff.1 h1
    have hc := hok c (by simp)
    have e0 : sizeF ([] : List Int) = (1, 0) := by decide
    refine ⟨?_, ?_, ?_, fun _ => rfl⟩
    · show (measF 16 (arrT [] [charT c])).isSome = true
      rw [meas_scalar (Or.inr rfl) (char_meas _ hc)]; rfl
    · refine ⟨by show 0 * 8 ≤ _; omega, by show 1 * 96 ≤ _; omega, fun x hx => ?_⟩
      have hx : x ∈ [charT c] := hx
      rw [List.mem_singleton.1 hx]
      exact ⟨by show 0 * 4 ≤ _; omega, by show 0 * 4 ≤ _; omega, by show 0 * 48 ≤ _; omega, fun y hy => by cases hy⟩
    · show (sizeF ([] : List Int)).1 = _
      rw [e0]; rfl
  rw [if_neg h1]
  have e : sizeF (vecA cs).ns = ((cs.length : Int), 0) := size_one (by omega) (by omega)
  have hk : ∀ x ∈ (vecA cs).kids, ∃ c, okRune c ∧ x = charT c := fun x hx => by
    have hx : x ∈ (if cs = [] then [charT 32] else cs.map charT) := hx
    by_cases hz : cs = []
    · rw [if_pos hz] at hx; exact ⟨32, h32, List.mem_singleton.1 hx⟩
    · rw [if_neg hz] at hx
      obtain ⟨c, hc, rfl⟩ := List.mem_map.1 hx
      exact ⟨c, hok c hc, rfl⟩
  have hkl : ((vecA cs).kids.length : Int) = max (cs.length : Int) 1 := by
    show ((if cs = [] then [charT 32] else cs.map charT).length : Int) = _
    by_cases hz : cs = []
    · rw [if_pos hz, hz]; rfl
    · rw [if_neg hz, List.length_map]
      have := List.length_pos_iff.2 hz
      omega
  refine ⟨?_, ?_, by rw [e], fun hz => ?_⟩
  · rw [meas_simple (L := 15) (by rw [e]) (by rw [e]; exact hkl) (by show 0 < 1; omega) (fun x hx => by obtain ⟨c, hc, rfl⟩ := hk x hx; exact char_meas _ hc)]; rfl
  · refine ⟨by show 1 * 8 ≤ _; omega, by omega, fun x hx => ?_⟩
    obtain ⟨c, _, rfl⟩ := hk x hx
    exact ⟨by show 0 * 4 ≤ _; omega, by show 0 * 4 ≤ _; omega, by show 0 * 48 ≤ _; omega, fun y hy => by cases hy⟩
  · show (if cs = [] then [charT 32] else cs.map charT) = _
    rw [if_neg (fun hh => hz (by rw [hh]; rfl))]
/-- The items of a text in quotes, as the law reads them. -/
def ItQ (w : World) (z : Option Addr) (u : Nat) (cs : List Int) : Prop :=
  cs.length = 0 ∨ ∃ g o, z = some ⟨g, o, none⟩ ∧ g < w.heap.size ∧ cs.length ≤ u ∧ u ≤ 9223372036854775807 ∧ ∀ j, j < cs.length → w.cell? ⟨g, o + j * 6 + 4, none⟩ = some (.int .i32 (cs.getD j 0))
theorem kids_c (cs : List Int) (j : Nat) (hj : j < cs.length) : ((cs.map charT).getD j tr0).c = cs.getD j 0 := by
  simp only [List.getD, List.getElem?_map, List.getElem?_eq_getElem hj, Option.map_some, Option.getD_some]
  rfl
theorem items_q {base : Nat} {W : World} {x1 : Option Addr} {n1 y1 : Nat} {x2 : Option Addr} {n2 y2 : Nat} {cs : List Int} (h : TA base W x1 n1 y1 x2 n2 y2 (qA cs)) (hok : ∀ c ∈ cs, okRune c) (hl : cs.length ≤ 1024) :
    Calls Tryz.prog 19 #[.agg #[.slice x1 n1 y1, .slice x2 n2 y2]] W fun e w' => ∃ z u, e = .returned (.slice z cs.length u) ∧ cs.length ≤ u ∧ u ≤ 9223372036854775807 ∧ Hid (ItQ w' z u cs) ∧ Below W.heap.size W w' := by
  obtain ⟨D, hD, hv⟩ := h
  obtain ⟨q1, q2, q3, q4⟩ := qA_right hok hl
  refine (refItems3_any (fun g hg => by obtain ⟨_, o, ho, _⟩ := hD g hg; exact (Array.getElem?_eq_some_iff.1 ho).1) hv q2 q1).mono ?_
  rintro e w' ⟨hx, hb⟩
  rcases hx with ⟨hz, rfl⟩ | ⟨hz, z1, m1, u1, z2, m2, u2, rfl, hv'⟩
  · have h0 : cs.length = 0 := by omega
    exact ⟨none, 0, by rw [h0], by omega, by omega, Or.inl h0, hb⟩
  · have h0 : ¬ cs.length = 0 := by omega
    have hrow := hv'.2
    obtain rfl := hrow.len
    rw [q4 h0] at hrow ⊢
    obtain ⟨a, cap, e, b1, b2, b3, b4⟩ := hrow
    obtain ⟨rfl, _, rfl⟩ := Value.slice.inj e
    rw [List.length_map] at b1 b4 ⊢
    refine ⟨_, _, rfl, b1, b2, ?_, hb⟩
    rcases b4 with b4 | ⟨g, o, rfl, hg, hc⟩
    · exact absurd b4 h0
    · refine Or.inr ⟨g, o, rfl, hg.2, b1, b2, fun j hj => ?_⟩
      obtain ⟨_, _, _, _, _, _, ⟨_, _, _, _, e4, _⟩, _⟩ := hc j hj
      rw [e4, kids_c cs j hj]
end Go.Proofs.YtnlmjibdifbnbaaGreat

/- ref01.Same of any two lists. -/
namespace Go.Proofs.YtnlmjibdifbnbaaGreat
set_option linter.unusedVariables false
set_option linter.unusedSimpArgs false
open Go.RowKit

set_option maxHeartbeats 1600000 in
theorem same_no (b1 o1 c1 b2 o2 c2 n : Nat) (xs ys : List Int) (w : World) (hb : n ≤ 9223372036854775807)
    (k1 : ∀ j, j < n → w.cell? ⟨b1, o1 + j, none⟩ = some (.int .u32 (xs.getD j 0)))
    (k2 : ∀ j, j < n → w.cell? ⟨b2, o2 + j, none⟩ = some (.int .u32 (ys.getD j 0))) (hne : ¬ ∀ j, j < n → xs.getD j 0 = ys.getD j 0) :
    Calls Tryz.prog 35 #[.slice (some ⟨b1, o1, none⟩) n c1, .slice (some ⟨b2, o2, none⟩) n c2] w fun e w' => e = .returned (.bool false) ∧ Below w.heap.size w w' := by
  have K1 : Hid (∀ j, j < n → w.cell? ⟨b1, o1 + j, none⟩ = some (.int .u32 (xs.getD j 0))) := k1
  have K2 : Hid (∀ j, j < n → w.cell? ⟨b2, o2 + j, none⟩ = some (.int .u32 (ys.getD j 0))) := k2
  have HN : Hid (¬ ∀ j, j < n → xs.getD j 0 = ys.getD j 0) := hne
  clear k1 k2 hne
  go_enter Tryz.func35, Tryz.ntmps35
  go_wp2
  go_loopw [5] (fun s wr => (∃ q, wr = w.drewN q) ∧ ∃ j : Nat, j ≤ n ∧ s = .int .i64 j ∧ Hid (∀ i, i < j → xs.getD i 0 = ys.getD i 0)) (fun s _ => n - (intOf s).toNat)
  case atStart => exact ⟨⟨0, rfl⟩, 0, Nat.zero_le _, rfl, fun i hi => by omega⟩
  case round =>
    obtain ⟨⟨q, rfl⟩, j, hj, rfl, HE⟩ := hrel
    by_cases hlt : j < n
    · have g1 := K1.out j hlt
      have g2 := K2.out j hlt
      by_cases hpp : xs.getD j 0 = ys.getD j 0
      · have HE2 : Hid (∀ i, i < j + 1 → xs.getD i 0 = ys.getD i 0) := by
          intro i hi
          by_cases h : i = j
          · subst h; exact hpp
          · exact HE.out i (by omega)
        rw [← hpp] at g2
        clear hpp
        generalize xs.getD j 0 = p at *
        go_wp2
        go_quiet (fail)
        go_wp2
        go_roundw
        case rel => exact ⟨⟨_, rfl⟩, j + 1, by omega, by go_num, HE2⟩
        case measure => simp [intOf]; omega
      · generalize xs.getD j 0 = p at *
        generalize ys.getD j 0 = p' at *
        have hpb : (p != p') = true := by rw [bne_iff_ne]; exact hpp
        have hpc : (p == p') = false := by rw [beq_eq_false_iff_ne]; exact hpp
        go_wp2
        go_quiet (fail)
        go_wp2
        go_ret
        exact ⟨rfl, below_drewN' (below_drewN' (Below.refl _ _) _) _⟩
    · exact absurd (fun i hi => HE.out i (by omega)) HN.out

set_option maxHeartbeats 800000 in
theorem same_len (a1 a2 : Option Addr) (n m c1 c2 : Nat) (w : World) (h : ¬ n = m) :
    Calls Tryz.prog 35 #[.slice a1 n c1, .slice a2 m c2] w fun e w' => e = .returned (.bool false) ∧ w = w' := by
  have hb : ((n : Int) != (m : Int)) = true := by rw [bne_iff_ne]; omega
  have hc : ((n : Int) == (m : Int)) = false := by rw [beq_eq_false_iff_ne]; omega
  go_enter Tryz.func35, Tryz.ntmps35
  go_wp2
  go_ret
  exact ⟨rfl, rfl⟩

theorem refSame_any {B B' : Nat} {w : World} {v1 v2 : Value} {xs ys : List Int} (h1 : Rd B w v1 xs) (h2 : Rd B' w v2 ys) :
    Calls Tryz.prog 35 #[v1, v2] w fun e w' => e = .returned (.bool (decide (xs = ys))) ∧ Below w.heap.size w w' := by
  by_cases hxy : xs = ys
  · subst hxy
    rw [decide_eq_true rfl]
    exact same_rd h1 h2
  · rw [decide_eq_false hxy]
    obtain ⟨_, a1, c1, rfl, i1, j1, _, f1⟩ := h1
    obtain ⟨_, a2, c2, rfl, i2, j2, _, f2⟩ := h2
    by_cases hl : xs.length = ys.length
    · by_cases h0 : xs.length = 0
      · exact absurd ((List.length_eq_zero_iff.1 h0).trans (List.length_eq_zero_iff.1 (hl ▸ h0)).symm) hxy
      · rcases f1 with f1 | ⟨b1, o1, rfl, _, k1⟩
        · exact absurd f1 h0
        rcases f2 with f2 | ⟨b2, o2, rfl, _, k2⟩
        · exact absurd (hl.trans f2) h0
        rw [← hl]
        refine (same_no b1 o1 c1 b2 o2 c2 xs.length xs ys w (by omega) k1 (fun j hj => k2 j (by omega)) ?_).mono ?_
        · intro h
          refine hxy (List.ext_getElem hl fun i h1 h2 => ?_)
          have := h i h1
          simpa [List.getD, h1, h2] using this
        · exact fun e w' h => h
    · refine (same_len a1 a2 xs.length ys.length c1 c2 w hl).mono ?_
      rintro e w' ⟨rfl, rfl⟩
      exact ⟨rfl, Below.refl _ _⟩
end Go.Proofs.YtnlmjibdifbnbaaGreat

/- The document's ToInt. -/
namespace Go.Proofs.YtnlmjibdifbnbaaGreat
set_option linter.unusedVariables false
set_option linter.unusedSimpArgs false
open Go.RowKit

theorem least_can : can [0, 2147483648] := by
  refine ⟨?_, Or.inr (by decide)⟩
  intro x hx
  rcases List.mem_cons.1 hx with rfl | hx
  · omega
  · rcases List.mem_cons.1 hx with rfl | hx
    · omega
    · cases hx
theorem least_rd (w : World) : Rd (w.alloc (.cells #[.int .u32 0, .int .u32 2147483648] 71)).heap.size (w.alloc (.cells #[.int .u32 0, .int .u32 2147483648] 71)) (.slice (some ⟨w.heap.size, 0, none⟩) 2 2) [0, 2147483648] := by
  refine ⟨least_can.1, some ⟨w.heap.size, 0, none⟩, 2, rfl, by simp, by omega, (fun h => by cases h), Or.inr ⟨w.heap.size, 0, rfl, by simp, fun j hj => ?_⟩⟩
  have hh := heap_alloc_new w (.cells #[.int .u32 0, .int .u32 2147483648] 71)
  match j, hj with
  | 0, _ => unfold World.cell?; dsimp only; rw [hh]; rfl
  | 1, _ => unfold World.cell?; dsimp only; rw [hh]; rfl
section
variable {w : World} {b : Bool} {a1 a2 : Option Addr} {c1 c2 : Nat} {ns ds : List Int}
set_option maxRecDepth 100000 in
set_option maxHeartbeats 8000000 in
theorem refToInt_rat (h1 : Rd w.heap.size w (.slice a1 ns.length c1) ns) (h2 : Rd w.heap.size w (.slice a2 ds.length c2) ds) :
    Calls Tryz.prog 18 #[.agg #[.bool b, .slice a1 ns.length c1, .slice a2 ds.length c2]] w fun e w' => ∃ n ok, e = .returned (.tuple #[.int .i64 n, .bool ok]) ∧ Hid (IntTold (IsWhole b ns ds) (sg b (val ns)) n ok) ∧ Below w.heap.size w w' := by
  have X := nvar_new (b := b) h1 h2
  have g := below_alloc w (.cells #[.bool b, .slice a1 ns.length c1, .slice a2 ds.length c2] 39)
  obtain ⟨x0, x1, x2⟩ := X.cells
  go_enter Tryz.func18, Tryz.ntmps18
  go_wp2_with fail
  clear x0 x1 x2
  generalize hA : w.alloc (.cells #[.bool b, .slice a1 ns.length c1, .slice a2 ds.length c2] 39) = v at *
  clear hA
  refine (refIsInt_rat X.rn X.rd).mono ?_
  rintro e wa ⟨⟨r, rfl, hr⟩, ka⟩
  replace X := X.below ka
  replace g := g.trans (ka.mono g.size)
  clear ka
  obtain ⟨x0, x1, x2⟩ := X.cells
  cases r with
  | false =>
    have HP : Hid (¬ IsWhole b ns ds) := fun h => by have := hr.2 h; cases this
    clear hr
    go_wp2
    refine bodyPost_ret (v := .tuple #[.int .i64 0, .bool false]) (by simp [results, Tryz.results18, go_sem]) rfl ?_
    exact ⟨0, false, rfl, Or.inr ⟨rfl, rfl, fun h => HP.out h.1⟩, g⟩
  | true =>
    have HP : Hid (IsWhole b ns ds) := hr.1 rfl
    clear hr
    have l1 : ns.length ≤ 17592186044415 := Nat.le_trans HP.out.1.1 (by decide)
    have HN : Hid (0 ≤ val ns) := (right_pos HP.out.1).2
    cases b with
    | false =>
      go_wp2_with fail
      refine (refSmall_any X.rn l1).mono ?_
      rintro e wb ⟨rfl, kb⟩
      replace X := X.below kb
      replace g := g.trans (kb.mono g.size)
      obtain ⟨x0, x1, x2⟩ := X.cells
      by_cases hs : val ns < 9223372036854775808
      · rw [smallV_lt hs]
        have HS : Hid (val ns < 9223372036854775808) := hs
        clear hs
        go_wp2
        refine bodyPost_ret (v := .tuple #[.int .i64 (val ns), .bool true]) (by simp [results, Tryz.results18, go_sem]) rfl ?_
        exact ⟨_, _, rfl, Or.inl ⟨rfl, HP.out, by rw [sg_false]; have := HN.out; omega, by rw [sg_false]; exact HS.out, rfl⟩, g⟩
      · rw [smallV_ge (by omega)]
        have HS : Hid (¬ val ns < 9223372036854775808) := hs
        clear hs
        go_wp2
        refine bodyPost_ret (v := .tuple #[.int .i64 0, .bool false]) (by simp [results, Tryz.results18, go_sem]) rfl ?_
        exact ⟨_, _, rfl, Or.inr ⟨rfl, rfl, fun h => by have h5 := HS.out; have h6 := h.2.2; rw [sg_false] at h6; omega⟩, g⟩
    | true =>
      have hy : Rd (wa.alloc (.cells #[.int .u32 0, .int .u32 2147483648] 71)).heap.size (wa.alloc (.cells #[.int .u32 0, .int .u32 2147483648] 71)) (.slice (some ⟨wa.heap.size, 0, none⟩) 2 2) [0, 2147483648] := least_rd wa
      have hk := below_alloc wa (.cells #[.int .u32 0, .int .u32 2147483648] 71)
      have X' := X.below hk
      go_wp2_with fail
      refine (refSame_any X'.rn hy).mono ?_
      rintro e wb ⟨rfl, kb⟩
      replace kb := hk.trans (kb.mono hk.size)
      replace X := X.below kb
      replace g := g.trans (kb.mono g.size)
      clear X' hy hk kb
      have h7 : sg true (val ns) = -(val ns) := by simp [sg]
      by_cases hq : ns = [0, 2147483648]
      · have HQ : Hid (val ns = 9223372036854775808) := by unfold Hid; rw [hq]; decide
        rw [decide_eq_true hq]
        clear hq
        go_wp2
        refine bodyPost_ret (v := .tuple #[.int .i64 (-9223372036854775808), .bool true]) (by simp [results, Tryz.results18, go_sem]) rfl ?_
        have h8 := HQ.out
        exact ⟨_, _, rfl, Or.inl ⟨rfl, HP.out, by rw [h7]; omega, by rw [h7]; omega, by rw [h7]; omega⟩, g⟩
      · have HQ : Hid (¬ val ns = 9223372036854775808) := fun h => hq (can_inj HP.out.1.2.2.1 least_can (by rw [h]; decide))
        rw [decide_eq_false hq]
        clear hq
        obtain ⟨x0, x1, x2⟩ := X.cells
        go_wp2_with fail
        clear x0 x1 x2
        refine (refSmall_any X.rn l1).mono ?_
        rintro e wc ⟨rfl, kc⟩
        replace X := X.below kc
        replace g := g.trans (kc.mono g.size)
        obtain ⟨x0, x1, x2⟩ := X.cells
        by_cases hs : val ns < 9223372036854775808
        · rw [smallV_lt hs]
          have HS : Hid (val ns < 9223372036854775808) := hs
          have hw1 : IntKind.i64.wrap (-(val ns)) = -(val ns) := by rw [IntKind.wrap_i64]; have := HN.out; omega
          clear hs
          go_wp2
          refine bodyPost_ret (v := .tuple #[.int .i64 (-(val ns)), .bool true]) (by simp [results, Tryz.results18, go_sem]) rfl ?_
          have h8 := HS.out
          have h9 := HN.out
          exact ⟨_, _, rfl, Or.inl ⟨rfl, HP.out, by rw [h7]; omega, by rw [h7]; omega, by rw [h7]⟩, g⟩
        · rw [smallV_ge (by omega)]
          have HS : Hid (¬ val ns < 9223372036854775808) := hs
          clear hs
          go_wp2
          refine bodyPost_ret (v := .tuple #[.int .i64 0, .bool false]) (by simp [results, Tryz.results18, go_sem]) rfl ?_
          have h8 := HS.out
          have h9 := HQ.out
          exact ⟨_, _, rfl, Or.inr ⟨rfl, rfl, fun h => by have h6 := h.2.1; rw [h7] at h6; omega⟩, g⟩
end
end Go.Proofs.YtnlmjibdifbnbaaGreat

/- array.ToInts of a row of whole numbers. -/
namespace Go.Proofs.YtnlmjibdifbnbaaGreat
set_option linter.unusedVariables false
set_option linter.unusedSimpArgs false
open Go.RowKit

theorem tells_whole {q n : Int} {ok : Bool} (h0 : -9223372036854775808 ≤ q) (h1 : q < 9223372036854775808) (h : TellsInt (wholeT q) n ok) : n = q ∧ ok = true := by
  have hw := wholeT_is h0 h1
  rcases h with ⟨_, h⟩ | ⟨hk, _⟩
  · have hsg := hw.sg.1
    rcases h with ⟨h1', h2, h3, h4, h5⟩ | ⟨h1', h2, h3⟩
    · exact ⟨h5.trans hsg, h1'⟩
    · refine absurd ⟨⟨hw.right, hw.2.2.2.2⟩, ?_, ?_⟩ h3
      · rw [hsg]; exact h0
      · rw [hsg]; exact h1
  · exact absurd rfl hk
theorem rdN_own {W : World} {Z : Nat} {a : Option Addr} {c : Nat} {l : List Int} (hin : ∀ x ∈ l, -9223372036854775808 ≤ x ∧ x ≤ 9223372036854775807) (h : W.ownsRow Z 3 1 (.slice a l.length c) l.length (l.map (Value.int .i64))) : RdN (Fr Z W.heap.size) W (.slice a l.length c) l := by
  have hrow := h
  obtain ⟨_, h | ⟨g, cap, cur, hv, hg, hh, h2, h3, _, _⟩⟩ := h
  · obtain ⟨e1, e2⟩ := h
    obtain ⟨rfl, _, rfl⟩ := Value.slice.inj e1
    exact ⟨hin, none, 0, rfl, by omega, by omega, fun _ => rfl, Or.inl e2⟩
  · obtain ⟨rfl, _, rfl⟩ := Value.slice.inj hv
    refine ⟨hin, _, _, rfl, h2, by unfold maxLen at h3; omega, (fun h => by cases h), Or.inr ⟨g, 0, rfl, ⟨hg, lt_of_block hh⟩, fun j hj => ?_⟩⟩
    have := hrow.cellAt j (by omega)
    rw [getD_map_i64 l j hj] at this
    rw [Nat.zero_add]; exact this
section
variable {D : Nat → Prop} {f : Nat} {W : World} {x1 : Option Addr} {n1 y1 : Nat} {x2 : Option Addr} {n2 y2 : Nat} {l : List Int}
set_option maxRecDepth 100000 in
set_option maxHeartbeats 16000000 in
theorem toInts_vec (hD : ∀ g, D g → g < W.heap.size) (hin : ∀ x ∈ l, -9223372036854775808 ≤ x ∧ x ≤ 9223372036854775807) (h : ArV (f + 1) D W (.slice x1 n1 y1) (.slice x2 n2 y2) (vecT (wholeT 0) (l.map wholeT))) :
    Calls Tryz.prog 6 #[.agg #[.slice x1 n1 y1, .slice x2 n2 y2]] W fun e w' => ∃ a c, e = .returned (.tuple #[.slice a (l.take 4096).length c, .bool true]) ∧ RdN (Fr W.heap.size w'.heap.size) w' (.slice a (l.take 4096).length c) (l.take 4096) ∧ Below W.heap.size W w' := by
  have hall : ∀ t ∈ l.map wholeT, ∀ M, measI M t = some (0, 0) := fun t ht M => by
    obtain ⟨q, hq, rfl⟩ := List.mem_map.1 ht
    exact whole_meas M (hin q hq).1 (by have := (hin q hq).2; omega)
  have hm : measF 16 (vecT (wholeT 0) (l.map wholeT)) = some (1, ((vecT (wholeT 0) (l.map wholeT)).kids.length : Int)) := vec_meas (L := 15) (whole_meas _ (by omega) (by omega)) (fun t ht => hall t ht _)
  have HM : Hid ((measF 16 (vecT (wholeT 0) (l.map wholeT))).isSome = true) := by unfold Hid; rw [hm]; rfl
  have HIn : Hid (∀ x ∈ l, -9223372036854775808 ≤ x ∧ x ≤ 9223372036854775807) := hin
  have en : n1 = 1 := h.1.len
  subst en
  have e2 := h.2.len
  have hl4 : (l.take 4096).length ≤ 4096 := by rw [List.length_take]; omega
  have hsz : sizeF (vecT (wholeT 0) (l.map wholeT)).ns = (((((l.map wholeT).take 4096).length : Nat) : Int), 0) := size_one (by omega) (by rw [List.length_take]; omega)
  have hlm : ((l.map wholeT).take 4096).length = (l.take 4096).length := by rw [List.length_take, List.length_map, List.length_take]
  rw [hlm] at hsz
  have HSz : Hid (sizeF (vecT (wholeT 0) (l.map wholeT)).ns = ((((l.take 4096).length : Nat) : Int), 0)) := hsz
  have H : Hid (ArV (f + 1) D W (.slice x1 1 y1) (.slice x2 n2 y2) (vecT (wholeT 0) (l.map wholeT))) := h
  have HD : Hid (∀ g, D g → g < W.heap.size) := hD
  have HK : Hid (n2 = (vecT (wholeT 0) (l.map wholeT)).kids.length) := e2
  have k0 := below_alloc W (.cells #[.slice x1 1 y1, .slice x2 n2 y2] 25)
  have X0 := boxA_new W #[.slice x1 1 y1, .slice x2 n2 y2] 25
  have s0 : W.heap.size < (W.alloc (.cells #[.slice x1 1 y1, .slice x2 n2 y2] 25)).heap.size := by simp
  have z0 := X0.cell 0 rfl
  have z1 := X0.cell 1 rfl
  obtain ⟨i0, hi0, hz0, hz1, hz2⟩ := info_parts info_int3
  clear h hD hall hm hin hsz hlm e2
  go_enter Tryz.func6, Tryz.ntmps6
  go_wp2_with fail
  generalize hA : W.alloc (.cells #[.slice x1 1 y1, .slice x2 n2 y2] 25) = v at *
  clear hA
  have C1 := right3_any (fun g hg => by have := HD.out g hg; omega) (H.out.agree (Agree.of k0 HD.out))
  rw [HM.out] at C1
  refine C1.mono ?_
  rintro e w1 ⟨rfl, q1⟩
  clear C1 z0 z1
  have X1 := X0.below q1 s0
  have l1 := X1.lt
  have k1 : Below W.heap.size W w1 := k0.trans (q1.mono (by omega))
  have v0 := X1.cell 0 rfl
  have v1 := X1.cell 1 rfl
  have C2 := isEmpty3_any (fun g hg => by have := HD.out g hg; omega) (H.out.agree (Agree.of k1 HD.out))
  rw [HSz.out] at C2
  simp only [] at C2
  go_wp2_with fail
  refine C2.mono ?_
  rintro e w2 ⟨rfl, q2⟩
  clear C2 v0 v1
  have X2 := X1.below q2 l1
  have l2 := X2.lt
  have k2 : Below W.heap.size W w2 := k1.trans (q2.mono (by omega))
  by_cases hz : (l.take 4096).length = 0
  · have hd : decide ((((l.take 4096).length : Nat) : Int) = 0) = true := decide_eq_true (by omega)
    have HZ : Hid ((l.take 4096).length = 0) := hz
    rw [hd]
    clear hd hz
    go_wp2
    go_ret2
    refine ⟨none, 0, by rw [HZ.out]; rfl, ?_, k2⟩
    have e : l.take 4096 = [] := List.eq_nil_of_length_eq_zero HZ.out
    rw [e]
    exact ⟨(fun x h => by cases h), none, 0, rfl, Nat.le_refl _, by omega, fun _ => rfl, Or.inl rfl⟩
  have hd : decide ((((l.take 4096).length : Nat) : Int) = 0) = false := decide_eq_false (by omega)
  rw [hd]
  have hts : ¬ (l.map wholeT).length = 0 := by rw [List.length_map]; intro h0; rw [List.length_take] at hz; omega
  have hkids : (vecT (wholeT 0) (l.map wholeT)).kids = (l.map wholeT).take 4096 := by show vecK _ _ = _; unfold vecK; rw [if_neg hts]
  obtain ⟨m, hm⟩ : ∃ m, (l.take 4096).length = m := ⟨_, rfl⟩
  have hn2 : n2 = m := by have := HK.out; rw [hkids] at this; rw [this, ← hm, List.length_take, List.length_map, List.length_take]
  subst hn2
  have HMl : Hid ((l.take 4096).length = n2) := hm
  have hm4 : n2 ≤ 4096 := by omega
  have HKids : Hid (∀ j, j < n2 → (vecT (wholeT 0) (l.map wholeT)).kids.getD j tr0 = wholeT ((l.take 4096).getD j 0)) := by
    intro j hj
    rw [hkids]
    have hjl : j < l.length := by rw [← hm, List.length_take] at hj; omega
    rw [List.getD_eq_getElem?_getD, List.getElem?_take_of_lt (by omega), List.getElem?_map, List.getElem?_eq_getElem hjl, List.getD_eq_getElem?_getD, List.getElem?_take_of_lt (by omega), List.getElem?_eq_getElem hjl]
    rfl
  have hpos : 0 < n2 := by omega
  clear hd hz hts hkids hm
  have u1 := X2.cell 1 rfl
  go_wp2_with fail
  go_loopw [4, 23] (fun ov iv wr => ∃ (i : Nat) (a : Option Addr) (c : Nat), iv = .int .i64 i ∧ ov = .slice a i c ∧ i ≤ n2 ∧ wr.ownsRow W.heap.size 3 1 (.slice a i c) i (((l.take 4096).take i).map (Value.int .i64)) ∧ Below W.heap.size W wr) (fun _ iv _ => n2 - (intOf iv).toNat)
  case atStart => exact ⟨0, none, 0, rfl, rfl, Nat.zero_le _, World.ownsRow_nil _ _ _ _, k2⟩
  case round =>
    obtain ⟨i, a, c, rfl, rfl, hil, ho, hbr⟩ := hrel
    have sb := hbr.size
    by_cases hlt : i < n2
    · have hR := H.out.2
      have hcell : ∃ g o, x2 = some ⟨g, o, none⟩ ∧ D g ∧ ∀ j, j < n2 → ItC (ArV f D W) D W g (o + j * 6) ((vecT (wholeT 0) (l.map wholeT)).kids.getD j tr0) := by
        have := HK.out
        rw [← this] at hR
        exact RowB.ptr hR hpos
      obtain ⟨g1, o1, rfl, hg1, hc1⟩ := hcell
      obtain ⟨b1, d1, b2, d2, b3, d3, ⟨e0, e1, e2, e3, e4, e5⟩, hv⟩ := hc1 i hlt
      have hk := HKids.out i hlt
      have lg := HD.out g1 hg1
      obtain ⟨q, hq⟩ : ∃ q, (l.take 4096).getD i 0 = q := ⟨_, rfl⟩
      rw [hq] at hk
      have hqm : q ∈ l := by
        have hjl : i < (l.take 4096).length := by have := HMl.out; omega
        rw [← hq, List.getD_eq_getElem?_getD, List.getElem?_eq_getElem hjl]
        exact List.mem_of_mem_take (List.getElem_mem hjl)
      obtain ⟨hq0, hq1⟩ := HIn.out q hqm
      obtain ⟨t, ht⟩ : ∃ t, (vecT (wholeT 0) (l.map wholeT)).kids.getD i tr0 = t := ⟨_, rfl⟩
      rw [ht] at e0 e1 e2 e3 e4 e5 hv hk
      have HT : Hid (t = wholeT q) := hk
      have HQ : Hid ((l.take 4096).take i ++ [q] = (l.take 4096).take (i + 1)) := by unfold Hid; rw [← hq]; exact pre_step (by have := HMl.out; omega)
      have E0 := (hbr.cell (p := ⟨g1, o1 + i * 6, none⟩) lg).trans e0
      have E1 := (hbr.cell (p := ⟨g1, o1 + i * 6 + 1, none⟩) lg).trans e1
      have E2 := (hbr.cell (p := ⟨g1, o1 + i * 6 + 2, none⟩) lg).trans e2
      have E3 := (hbr.cell (p := ⟨g1, o1 + i * 6 + 3, none⟩) lg).trans e3
      have E4 := (hbr.cell (p := ⟨g1, o1 + i * 6 + 4, none⟩) lg).trans e4
      have E5 := (hbr.cell (p := ⟨g1, o1 + i * 6 + 5, none⟩) lg).trans e5
      have HV : Hid (ItV (ArV f D W) D W b1 d1 b2 d2 b3 d3 t) := hv
      clear hc1 e0 e1 e2 e3 e4 e5 hv hk ht hq hqm hR
      have kx := below_alloc wr (.cells #[.int .u8 t.k, .bool t.b, .slice b1 t.ns.length d1, .slice b2 t.ds.length d2, .int .i32 t.c, .slice b3 t.kids.length d3] 42)
      have BX := boxA_new wr #[.int .u8 t.k, .bool t.b, .slice b1 t.ns.length d1, .slice b2 t.ds.length d2, .int .i32 t.c, .slice b3 t.kids.length d3] 42
      have ho1 := ho.alloc (.cells #[.int .u8 t.k, .bool t.b, .slice b1 t.ns.length d1, .slice b2 t.ds.length d2, .int .i32 t.c, .slice b3 t.kids.length d3] 42)
      have hb1 := hbr.trans (kx.mono sb)
      have m0 := BX.cell 0 rfl
      have m1 := BX.cell 1 rfl
      have m2 := BX.cell 2 rfl
      have m3 := BX.cell 3 rfl
      have m4 := BX.cell 4 rfl
      have m5 := BX.cell 5 rfl
      have C := whole_any (fun g hg => by have := HD.out g hg; have := hb1.size; omega) (HV.out.agree (Agree.of hb1 HD.out))
      clear ho hbr
      go_wp2_with fail
      refine C.mono ?_
      rintro e w3 ⟨n, ok, rfl, HTI, k3⟩
      have hno := tells_whole hq0 (by omega) (show TellsInt (wholeT q) n ok by rw [← HT.out]; exact HTI.out)
      obtain ⟨rfl, rfl⟩ := hno
      clear C m0 m1 m2 m3 m4 m5 BX HTI HT
      have ho2 := row_below ho1 k3 (Nat.le_refl _)
      have hbb := hb1.trans (k3.mono hb1.size)
      have sz2 := hbb.size
      clear ho1 hb1 kx
      go_wp2_with (at_builtin; refine wpList_append_own _ rfl _ _ 22 rfl W.heap.size 3 i0 (.int .i64 0) 1 8 Tryz.underlying22 hi0 hz0 hz1 hz2 rfl (by decide) _ i (((l.take 4096).take i).map (Value.int .i64)) rfl (ho2.alloc _) ⟨w3.heap.size, 0, none⟩ 1 1 [.int .i64 n] rfl rfl (cells_new w3 #[.int .i64 n] _) (by intro u hu; simp at hu; subst hu; rfl) (by unfold maxLen; omega) (by omega) (by simp; omega) ?_)
      intro v' w4 hown hgr _
      obtain ⟨a4, c4, rfl⟩ := row_form3 hown
      have hrow : ∀ k, (Value.slice a i c).ownBlock = some k → W.heap.size ≤ k := fun k e => (row_own ho2 k e).1
      have hb4 : Below W.heap.size W w4 := (hbb.trans ((below_alloc w3 (.cells #[.int .i64 n] 3)).mono sz2)).grown hgr (by simp; omega) hrow
      have HO4 : Hid (w4.ownsRow W.heap.size 3 1 (.slice a4 (i + 1) c4) (i + 1) (((l.take 4096).take (i + 1)).map (Value.int .i64))) := by
        unfold Hid
        rw [← HQ.out, List.map_append]
        simp only [List.map_take, List.map_cons, List.map_nil]
        exact hown
      clear hown hgr ho2
      go_wp2
      go_roundw
      case rel => exact ⟨i + 1, a4, c4, by go_num, rfl, by omega, HO4.out, hb4⟩
      case measure => simp [intOf]; omega
    · obtain rfl : i = n2 := by omega
      have HO : Hid (RdN (Fr W.heap.size wr.heap.size) wr (.slice a i c) (l.take 4096)) := by
        rw [List.take_of_length_le (by have := HMl.out; omega)] at ho
        have := rdN_own (l := l.take 4096) (a := a) (c := c) (fun x hx => HIn.out x (List.mem_of_mem_take hx)) (by rw [HMl.out]; exact ho)
        rw [HMl.out] at this
        exact this
      clear ho
      go_wp2
      go_ret2
      exact ⟨a, c, by rw [HMl.out]; rfl, by rw [HMl.out]; exact HO.out, hbr⟩
end
end Go.Proofs.YtnlmjibdifbnbaaGreat
