/- The characters of a number's text. -/
import Derived.Test.YtimfnalpmmkndaaGreatDoorL1
import Derived.Test.YtimfnalpmmkndaaGreatDoorKX
import Derived.Shelf.Abstract
import Derived.Shelf.RegionOpen
import Derived.OwnWalkIn
import Derived.TacticsInMore
import Derived.LoopNIn
import Derived.LoopIn
import Derived.Maps.AppendAt
namespace Go.Proofs.YtimfnalpmmkndaaGreatDoor
set_option linter.unusedVariables false
set_option linter.unusedSimpArgs false
open Go.RowKit

theorem runesBytes_from (ns : List Int) : ∀ s : ByteArray, ns.foldl (fun r n => r ++ Utf8.encode n) s = s ++ runesBytes ns := by
 induction ns with
 | nil => intro s; simp [runesBytes]
 | cons n ns ih =>
  intro s
  have e : runesBytes (n :: ns) = (ByteArray.empty ++ Utf8.encode n) ++ runesBytes ns := by
   rw [runesBytes, List.foldl_cons, ih]
  rw [List.foldl_cons, ih, e]
  simp [ByteArray.append_assoc]
theorem runesBytes_cons (n : Int) (ns : List Int) : (runesBytes (n :: ns)).data.toList = (Utf8.encode n).data.toList ++ (runesBytes ns).data.toList := by
 rw [runesBytes, List.foldl_cons, runesBytes_from]
 simp
end Go.Proofs.YtimfnalpmmkndaaGreatDoor

/- lex.tokens at a number's text: what its iterator tells. -/
namespace Go.Proofs.YtimfnalpmmkndaaGreatDoor
set_option linter.unusedVariables false
set_option linter.unusedSimpArgs false
open Go.RowKit Go.Shelf

attribute [local go_sem] Oper.semAt_some

/-- A token: its kind, text and place, and where its array's items lie. -/
structure Tok where
 kd : Int
 tx : ByteArray
 pl : Int
 ia : Option Addr
 il : Nat
 ic : Nat
def Tok.cells (x : Tok) : List Value := [.int .u8 x.kd, .string x.tx, .int .i64 x.pl, .slice none 0 0, .slice x.ia x.il x.ic]
def Tok.encs (x : Tok) : Array Value := #[.agg #[.int .u8 x.kd, .string x.tx, .int .i64 x.pl, .slice none 0 0, .slice x.ia x.il x.ic], .int .i64 0]
/-- What a round keeps: what lay below n₀, the block Bn, and items that are numbers. -/
structure KeepT (n₀ Bn : Nat) (W W' : World) : Prop where
 below : Below n₀ W W'
 box : W'.heap[Bn]? = W.heap[Bn]?
 num : ∀ base k b ns ds, NumAt base W k b ns ds → NumAt base W' k b ns ds
theorem KeepT.trans {n₀ Bn : Nat} {A B C : World} (h : KeepT n₀ Bn A B) (k : KeepT n₀ Bn B C) : KeepT n₀ Bn A C := ⟨h.below.trans k.below, k.box.trans h.box, fun _ _ _ _ _ hN => k.num _ _ _ _ _ (h.num _ _ _ _ _ hN)⟩
theorem passTo_end (cs : List Int) : passTo cs cs.length = cs.length := by
 have h := runEnd_le bl cs cs.length (Nat.le_refl _)
 unfold passTo
 rw [if_neg (by omega)]
 omega
end Go.Proofs.YtimfnalpmmkndaaGreatDoor

/- lex.All at a number's text. -/
namespace Go.Proofs.YtimfnalpmmkndaaGreatDoor
set_option linter.unusedVariables false
set_option linter.unusedSimpArgs false
open Go.RowKit Go.Shelf

attribute [local go_sem] Oper.semAt_some

/-- The type of what lies in a block. -/
def tyOf : Obj → Option TypeId | .cells _ t _ => some t | _ => none
/-- A step that turns one block, neither an item nor limbs, leaves a number's item. -/
theorem NumAt.kept {base k : Nat} {W W' : World} {b : Bool} {ns ds : List Int} {row : Option Nat} (h : NumAt base W k b ns ds) (hg : W.grownBy W' row) (hr : ∀ r, row = some r → ∃ o, W.heap[r]? = some o ∧ tyOf o ≠ some 113 ∧ tyOf o ≠ some 196) : NumAt base W' k b ns ds := by
 obtain ⟨h0, x1, y1, x2, y2, hB, o1, o2⟩ := h
 have ob : ∀ {v : Value} {xs : List Int}, Own base W v xs → Own base W' v xs := fun {v xs} ho => by
  refine ho.grown hg ?_
  by_cases hv : v.ownBlock = none
  · exact Or.inl hv
  · refine Or.inr (fun e => ?_)
    obtain ⟨_, _, h | ⟨g, cap, cur, rfl, _, hh, _⟩⟩ := ho
    · rw [h.1] at hv; exact hv rfl
    · obtain ⟨o, ho', _, h2⟩ := hr g e.symm
      rw [hh] at ho'
      cases ho'
      exact h2 rfl
 refine ⟨h0, x1, y1, x2, y2, ?_, ob o1, ob o2⟩
 have hlt := hB.lt
 unfold BoxA at hB ⊢
 rw [hg.block k hlt (fun e => ?_)]
 · exact hB
 · obtain ⟨o, ho', h1, _⟩ := hr k e.symm
   rw [hB] at ho'
   cases ho'
   exact h1 rfl
theorem BoxA.grown {W W' : World} {B ty : Nat} {xs : Array Value} {row : Option Nat} (h : BoxA W B ty xs) (hg : W.grownBy W' row) (hr : row ≠ some B) : BoxA W' B ty xs := by
 have hlt := h.lt
 unfold BoxA at h ⊢
 rw [hg.block B hlt (fun e => hr e.symm)]; exact h

theorem row_form {W : World} {base e size n : Nat} {v : Value} {xs : List Value} (h : W.ownsRow base e size v (n + 1) xs) : ∃ g cap, v = .slice (some ⟨g, 0, none⟩) (n + 1) cap := by
 obtain ⟨_, h | ⟨g, cap, cur, rfl, _⟩⟩ := h
 · omega
 · exact ⟨g, cap, rfl⟩

end Go.Proofs.YtimfnalpmmkndaaGreatDoor

/- array.Text: the characters of a text, as an iterator tells them. -/
namespace Go.Proofs.YtimfnalpmmkndaaGreatDoor
set_option linter.unusedVariables false
set_option linter.unusedSimpArgs false
open Go.RowKit Go.Shelf

attribute [local go_sem] Oper.semAt_some

/-- The cells of a character as an item. -/
def chCells (c : Int) : List Value := [.int .u8 2, .bool false, .slice none 0 0, .slice none 0 0, .int .i32 c, .slice none 0 0]
structure KeepC (n₀ : Nat) (W W' : World) : Prop where
 below : Below n₀ W W'
 others : KeepsWalks W W'
theorem KeepC.trans {n₀ : Nat} {A B C : World} (h : KeepC n₀ A B) (k : KeepC n₀ B C) : KeepC n₀ A C := ⟨h.below.trans k.below, h.others.trans k.others⟩

end Go.Proofs.YtimfnalpmmkndaaGreatDoor

/- array.vector over the characters of a text. -/
namespace Go.Proofs.YtimfnalpmmkndaaGreatDoor
set_option linter.unusedVariables false
set_option linter.unusedSimpArgs false
open Go.RowKit Go.Shelf

attribute [local go_sem] Oper.semAt_some

theorem info_item : (Tryz.prog.info? 113).map (fun i => (i.zero, i.size, i.bytes)) = some (some (.agg #[.int .u8 0, .bool false, .slice none 0 0, .slice none 0 0, .int .i32 0, .slice none 0 0]), 6, 96) := by kernel_rfl
theorem row_form2 {W : World} {base e size n : Nat} {v : Value} {xs : List Value} (h : W.ownsRow base e size v n xs) : ∃ a cap, v = .slice a n cap := by
 obtain ⟨_, h | ⟨g, cap, cur, rfl, _⟩⟩ := h
 · obtain ⟨rfl, rfl, _⟩ := h; exact ⟨_, _, rfl⟩
 · exact ⟨_, cap, rfl⟩
theorem row_mono {W : World} {base base' e size n : Nat} {v : Value} {xs : List Value} (h : W.ownsRow base e size v n xs) (hb : base' ≤ base) : W.ownsRow base' e size v n xs := by
 obtain ⟨h1, h | ⟨g, cap, cur, h2, h3, h4⟩⟩ := h
 · exact ⟨h1, .inl h⟩
 · exact ⟨h1, .inr ⟨g, cap, cur, h2, Nat.le_trans hb h3, h4⟩⟩
end Go.Proofs.YtimfnalpmmkndaaGreatDoor

/- array.Text. -/
namespace Go.Proofs.YtimfnalpmmkndaaGreatDoor
set_option linter.unusedVariables false
set_option linter.unusedSimpArgs false
open Go.RowKit Go.Shelf

/-- A vector of characters, as array.Text answers it: the shape, and the items, or the prototype of none. -/
structure TextAt (base : Nat) (w' : World) (v : Value) (ys : List Int) : Prop where
 form : ∃ g1 v2, v = .agg #[.slice (some ⟨g1, 0, none⟩) 1 1, v2] ∧ base ≤ g1 ∧ BoxA w' g1 3 #[.int .i64 ((ys.length : Nat) : Int)] ∧
     ((ys = [] ∧ ∃ g2, v2 = .slice (some ⟨g2, 0, none⟩) 1 1 ∧ base ≤ g2 ∧ BoxA w' g2 113 #[.int .u8 2, .bool false, .slice none 0 0, .slice none 0 0, .int .i32 32, .slice none 0 0]) ∨
      (ys ≠ [] ∧ w'.ownsRow base 113 6 v2 ys.length (ys.flatMap chCells)))

theorem TextAt.mono {b b' : Nat} {W : World} {v : Value} {ys : List Int} (h : TextAt b W v ys) (hb : b' ≤ b) : TextAt b' W v ys := by
 obtain ⟨g1, v2, rfl, h1, h2, h3⟩ := h.form
 refine ⟨_, _, rfl, by omega, h2, ?_⟩
 rcases h3 with ⟨h, g2, e, h4, h5⟩ | ⟨h, h4⟩
 · exact .inl ⟨h, g2, e, by omega, h5⟩
 · exact .inr ⟨h, row_mono h4 hb⟩
theorem TextAt.setC {n : Nat} {W : World} {v : Value} {ys : List Int} (h : TextAt (n + 1) W v ys) (i : Nat) (u : Value) : TextAt (n + 1) (W.setCell ⟨n, i, none⟩ u) v ys := by
 obtain ⟨g1, v2, rfl, h1, h2, h3⟩ := h.form
 refine ⟨_, _, rfl, h1, h2.other (p := ⟨n, i, none⟩) (show n ≠ g1 by omega) u, ?_⟩
 rcases h3 with ⟨h, g2, e, h4, h5⟩ | ⟨h, h4⟩
 · exact .inl ⟨h, g2, e, h4, h5.other (p := ⟨n, i, none⟩) (show n ≠ g2 by omega) u⟩
 · exact .inr ⟨h, ownsRow_setCell_other h4 (a := ⟨n, i, none⟩) (fun e => by have := (h4.lt _ e).1; simp at this; omega) u⟩
theorem TextAt.below {base : Nat} {W W' : World} {v : Value} {ys : List Int} (h : TextAt base W v ys) (hk : Below W.heap.size W W') : TextAt base W' v ys := by
 obtain ⟨g1, v2, rfl, h1, h2, h3⟩ := h.form
 refine ⟨_, _, rfl, h1, h2.below hk h2.lt, ?_⟩
 rcases h3 with ⟨h, g2, e, h4, h5⟩ | ⟨h, h4, h5 | ⟨g, cap, cur, h6, h7, h8, h9⟩⟩
 · exact .inl ⟨h, g2, e, h4, h5.below hk h5.lt⟩
 · exact .inr ⟨h, h4, .inl h5⟩
 · exact .inr ⟨h, h4, .inr ⟨g, cap, cur, h6, h7, (hk.block g (Array.getElem?_eq_some_iff.1 h8).1).trans h8, h9⟩⟩
end Go.Proofs.YtimfnalpmmkndaaGreatDoor

/- array.Char at a character that is one. -/
namespace Go.Proofs.YtimfnalpmmkndaaGreatDoor
set_option linter.unusedVariables false
set_option linter.unusedSimpArgs false
open Go.RowKit Go.Shelf

end Go.Proofs.YtimfnalpmmkndaaGreatDoor

/- lex: more sorts of characters; a character among those of a text; pieces of a line; names. -/
namespace Go.Proofs.YtimfnalpmmkndaaGreatDoor
set_option linter.unusedVariables false
set_option linter.unusedSimpArgs false
open Go.RowKit

def lt (c : Int) : Bool := (decide (65 ≤ c) && decide (c ≤ 90)) || (decide (97 ≤ c) && decide (c ≤ 122))
def bn (c : Int) : Bool := lt c || decide (c = 95) || decide (c = 8710)
def inm (c : Int) : Bool := bn c || dg c

end Go.Proofs.YtimfnalpmmkndaaGreatDoor

/- lex.piece anywhere in a line; names. -/
namespace Go.Proofs.YtimfnalpmmkndaaGreatDoor
set_option linter.unusedVariables false
set_option linter.unusedSimpArgs false
open Go.RowKit

/-- The characters of a line from i to j, as a text. -/
def cutText (cs : List Int) (i j : Nat) : ByteArray := runesBytes ((cs.drop i).take (j - i))
section
variable {w : World} {cs : List Int} {b off cap : Nat}
end
end Go.Proofs.YtimfnalpmmkndaaGreatDoor

/- lex.literal: what characters in quotes are. -/
namespace Go.Proofs.YtimfnalpmmkndaaGreatDoor
set_option linter.unusedVariables false
set_option linter.unusedSimpArgs false
open Go.RowKit Go.Shelf

section
variable {w : World} {cs : List Int} {b off cap : Nat}
end
end Go.Proofs.YtimfnalpmmkndaaGreatDoor

/- lex.textAt. -/
namespace Go.Proofs.YtimfnalpmmkndaaGreatDoor
set_option linter.unusedVariables false
set_option linter.unusedSimpArgs false
open Go.RowKit Go.Shelf

/-- A text in quotes, from i on: the characters meant, and where it ends. -/
def qscan (cs : List Int) : Nat → Nat → List Int → Option (List Int × Nat)
 | 0, _, _ => none
 | f + 1, i, acc => if i < cs.length then
     if cs.getD i 0 = 39 then
      if i + 1 = cs.length ∨ ¬ cs.getD (i + 1) 0 = 39 then some (acc, i + 1) else qscan cs f (i + 2) (acc ++ [39])
     else qscan cs f (i + 1) (acc ++ [cs.getD i 0])
  else none
def TwoSl (v : Value) : Prop := ∃ a1 n1 c1 a2 n2 c2, v = .agg #[.slice a1 n1 c1, .slice a2 n2 c2]
theorem TextAt.two {b : Nat} {W : World} {v : Value} {ys : List Int} (h : TextAt b W v ys) : TwoSl v := by
 obtain ⟨g1, v2, rfl, h1, h2, h3⟩ := h.form
 rcases h3 with ⟨_, g2, rfl, _⟩ | ⟨_, h⟩
 · exact ⟨_, _, _, _, _, _, rfl⟩
 · obtain ⟨a, c, rfl⟩ := row_form2 h; exact ⟨_, _, _, _, _, _, rfl⟩

section
variable {w : World} {cs : List Int} {b off cap : Nat}
def okRune (c : Int) : Prop := (0 ≤ c ∧ c < 55296) ∨ (57343 < c ∧ c ≤ 1114111)
end
end Go.Proofs.YtimfnalpmmkndaaGreatDoor
