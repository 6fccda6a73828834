/- What a header says, by its tokens: the mathematics. -/
import Derived.Test.YtimfnalpmmkndaaGreatDoorLC
import Derived.Test.YtimfnalpmmkndaaGreatDoorSA
import Derived.Deep.RegionHeld3
namespace Go.Proofs.YtimfnalpmmkndaaGreatDoor
set_option linter.unusedVariables false
set_option linter.unusedSimpArgs false
open Go.RowKit

abbrev Tk := Int × ByteArray × Nat × Int
def tkd (T : List Tk) (k : Nat) : Int := (T.getD k (0, ⟨#[]⟩, 0, 0)).1
def ttx (T : List Tk) (k : Nat) : ByteArray := (T.getD k (0, ⟨#[]⟩, 0, 0)).2.1
def arwT : ByteArray := ⟨#[226, 134, 144]⟩
def semT : ByteArray := ⟨#[59]⟩
def colT : ByteArray := ⟨#[58]⟩
/-- A row of tokens ends with the end. -/
def EndT (T : List Tk) : Prop := ∃ l p, T = l ++ [(0, ⟨#[]⟩, p, 0)]
theorem EndT.pos {T : List Tk} (h : EndT T) : 0 < T.length := by
 obtain ⟨l, p, rfl⟩ := h
 simp
theorem EndT.next {T : List Tk} (h : EndT T) {k : Nat} (hk : k < T.length) (hx : ¬ tkd T k = 0 ∨ ¬ ttx T k = noT) : k + 1 < T.length := by
 obtain ⟨l, p, rfl⟩ := h
 rw [List.length_append, List.length_singleton] at hk ⊢
 rcases Nat.lt_or_ge k l.length with h' | h'
 · omega
 · obtain rfl : k = l.length := by omega
   unfold tkd ttx at hx
   rw [List.getD_eq_getElem?_getD, List.getElem?_append_right (Nat.le_refl _)] at hx
   simp [noT] at hx

/-- The names side by side from k on. -/
def namF (T : List Tk) : Nat → Nat → List ByteArray
 | 0, _ => []
 | f + 1, k => if tkd T k = 3 then ttx T k :: namF T f (k + 1) else []
/-- The names from k on that stand behind a semicolon each. -/
def locF (T : List Tk) : Nat → Nat → List ByteArray
 | 0, _ => []
 | f + 1, k => if ttx T k = semT ∧ tkd T (k + 1) = 3 then ttx T (k + 1) :: locF T f (k + 2) else []
def resK (T : List Tk) : Nat := if tkd T 0 = 3 ∧ ttx T 1 = arwT then 2 else 0
def resT (T : List Tk) : ByteArray := if tkd T 0 = 3 ∧ ttx T 1 = arwT then ttx T 0 else noT
structure Hd where
 nm : ByteArray
 rs : ByteArray
 lf : ByteArray
 rt : ByteArray
 ls : List ByteArray
/-- All names that stand in a header. -/
def Hd.all (h : Hd) : List ByteArray := (([h.rs, h.lf, h.rt] ++ h.ls).filter full) ++ [h.nm]
def namesOfF (T : List Tk) : List ByteArray := namF T T.length (resK T)
def localsOfF (T : List Tk) : List ByteArray := locF T T.length (resK T + (namesOfF T).length)
def endK (T : List Tk) : Nat := resK T + (namesOfF T).length + 2 * (localsOfF T).length
def hdOf (r : ByteArray) (ls : List ByteArray) : List ByteArray → Option Hd
 | [n] => some ⟨n, r, noT, noT, ls⟩
 | [n, a] => some ⟨n, r, noT, a, ls⟩
 | [l, n, a] => some ⟨n, r, l, a, ls⟩
 | _ => none
def pickH (o : Option Hd) : Option Hd := match o with
 | some h => if (takeF [] h.all).1 then some h else none
 | none => none
def headF (T : List Tk) : Option Hd := if ¬ tkd T (endK T) = 0 ∨ 32 < (localsOfF T).length then none else pickH (hdOf (resT T) (localsOfF T) (namesOfF T))
end Go.Proofs.YtimfnalpmmkndaaGreatDoor

/- What a header's tokens say: resultOf, namesOf, localsOf. -/
namespace Go.Proofs.YtimfnalpmmkndaaGreatDoor
set_option linter.unusedVariables false
set_option linter.unusedSimpArgs false
open Go.RowKit

/-- A row of tokens that ends with the end, in block g, from below B. -/
structure TokR (B : Nat) (w : World) (g : Nat) (T : List Tk) : Prop where
 lt : g < B
 fin : EndT T
 few : T.length ≤ 1025
 kd : ∀ k, k < T.length → w.cell? ⟨g, k * 5, none⟩ = some (.int .u8 (tkd T k))
 tx : ∀ k, k < T.length → w.cell? ⟨g, k * 5 + 1, none⟩ = some (.string (ttx T k))
theorem TokR.below {B C : Nat} {w w' : World} {g : Nat} {T : List Tk} (h : TokR B w g T) (k : Below C w w') (hC : B ≤ C) : TokR B w' g T :=
 ⟨h.lt, h.fin, h.few, fun j hj => by rw [k.cell (p := ⟨g, j * 5, none⟩) (by have := h.lt; show g < C; omega)]; exact h.kd j hj, fun j hj => by rw [k.cell (p := ⟨g, j * 5 + 1, none⟩) (by have := h.lt; show g < C; omega)]; exact h.tx j hj⟩
theorem tx_isD (x y : ByteArray) (L : List UInt8) (h : y.data.toList = L) : (x.toList == L) = decide (x = y) ∧ (x.toList = L ↔ x = y) := by
 have e : x.toList = L ↔ x = y := by
  rw [ByteArray.toList_eq, ← h]
  exact ⟨fun e => ByteArray.ext (Array.toList_inj.mp e), fun e => by rw [e]⟩
 refine ⟨?_, e⟩
 by_cases hx : x = y
 · rw [decide_eq_true hx, beq_iff_eq]; exact e.2 hx
 · rw [decide_eq_false hx, beq_eq_false_iff_ne]; exact fun h' => hx (e.1 h')
theorem TokR.two {B : Nat} {w : World} {g : Nat} {T : List Tk} (h : TokR B w g T) {k : Nat} (hk : k < T.length) (h3 : tkd T k = 3) : k + 1 < T.length := h.fin.next hk (Or.inl (by rw [h3]; decide))
end Go.Proofs.YtimfnalpmmkndaaGreatDoor

/- What a header's tokens say: localsOf. -/
namespace Go.Proofs.YtimfnalpmmkndaaGreatDoor
set_option linter.unusedVariables false
set_option linter.unusedSimpArgs false
open Go.RowKit

end Go.Proofs.YtimfnalpmmkndaaGreatDoor

/- define.Locals, headerNames, and taken.take. -/
namespace Go.Proofs.YtimfnalpmmkndaaGreatDoor
set_option linter.unusedVariables false
set_option linter.unusedSimpArgs false
open Go.RowKit

theorem row_monoS {W : World} {base base' e size n : Nat} {v : Value} {xs : List Value} (h : W.ownsRow base e size v n xs) (hb : base' ≤ base) : W.ownsRow base' e size v n xs := by
 obtain ⟨h1, h | ⟨g, cap, cur, hv, hg, r⟩⟩ := h
 · exact ⟨h1, Or.inl h⟩
 · exact ⟨h1, Or.inr ⟨g, cap, cur, hv, Nat.le_trans hb hg, r⟩⟩
abbrev fnV (nm rs lf rt : ByteArray) (ls lb at' li : Value) (br : Bool) : Array Value := #[.string nm, .string rs, .string lf, .string rt, ls, lb, at', li, .bool br]
end Go.Proofs.YtimfnalpmmkndaaGreatDoor

/- taken.take: texts taken one by one. -/
namespace Go.Proofs.YtimfnalpmmkndaaGreatDoor
set_option linter.unusedVariables false
set_option linter.unusedSimpArgs false
open Go.RowKit

end Go.Proofs.YtimfnalpmmkndaaGreatDoor
