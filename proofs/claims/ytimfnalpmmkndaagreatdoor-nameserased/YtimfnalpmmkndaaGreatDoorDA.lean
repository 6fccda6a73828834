/- What a header says, by its tokens: the mathematics. -/
import Derived.Test.YtimfnalpmmkndaaGreatDoorLC
import Derived.Test.YtimfnalpmmkndaaGreatDoorSA
import Derived.Deep.RegionHeld3
namespace Go.Proofs.YtimfnalpmmkndaaGreatDoor
set_option linter.unusedVariables false
set_option linter.unusedSimpArgs false
open Go.RowKit

abbrev Tk := Int × ByteArray × Nat × Int
def tkd (T : List Tk) (k : Nat) : Int := (T.getD k (0, ⟨#[]⟩, 0, 0)).1
def ttx (T : List Tk) (k : Nat) : ByteArray := (T.getD k (0, ⟨#[]⟩, 0, 0)).2.1
def arwT : ByteArray := ⟨#[226, 134, 144]⟩
def semT : ByteArray := ⟨#[59]⟩
def colT : ByteArray := ⟨#[58]⟩
def EndT (T : List Tk) : Prop := ∃ l p, T = l ++ [(0, ⟨#[]⟩, p, 0)]
theorem EndT.pos {T : List Tk} (h : EndT T) : 0 < T.length := by
 obtain ⟨l, p, rfl⟩ := h
 simp
def namF (T : List Tk) : Nat → Nat → List ByteArray
 | 0, _ => []
 | f + 1, k => if tkd T k = 3 then ttx T k :: namF T f (k + 1) else []
def locF (T : List Tk) : Nat → Nat → List ByteArray
 | 0, _ => []
 | f + 1, k => if ttx T k = semT ∧ tkd T (k + 1) = 3 then ttx T (k + 1) :: locF T f (k + 2) else []
def resK (T : List Tk) : Nat := if tkd T 0 = 3 ∧ ttx T 1 = arwT then 2 else 0
def resT (T : List Tk) : ByteArray := if tkd T 0 = 3 ∧ ttx T 1 = arwT then ttx T 0 else noT
structure Hd where
 nm : ByteArray
 rs : ByteArray
 lf : ByteArray
 rt : ByteArray
 ls : List ByteArray
def Hd.all (h : Hd) : List ByteArray := (([h.rs, h.lf, h.rt] ++ h.ls).filter full) ++ [h.nm]
def namesOfF (T : List Tk) : List ByteArray := namF T T.length (resK T)
def localsOfF (T : List Tk) : List ByteArray := locF T T.length (resK T + (namesOfF T).length)
def endK (T : List Tk) : Nat := resK T + (namesOfF T).length + 2 * (localsOfF T).length
def hdOf (r : ByteArray) (ls : List ByteArray) : List ByteArray → Option Hd
 | [n] => some ⟨n, r, noT, noT, ls⟩
 | [n, a] => some ⟨n, r, noT, a, ls⟩
 | [l, n, a] => some ⟨n, r, l, a, ls⟩
 | _ => none
def pickH (o : Option Hd) : Option Hd := match o with
 | some h => if (takeF [] h.all).1 then some h else none
 | none => none
def headF (T : List Tk) : Option Hd := if ¬ tkd T (endK T) = 0 ∨ 32 < (localsOfF T).length then none else pickH (hdOf (resT T) (localsOfF T) (namesOfF T))
theorem tx_isD (x y : ByteArray) (L : List UInt8) (h : y.data.toList = L) : (x.toList == L) = decide (x = y) ∧ (x.toList = L ↔ x = y) := by
 have e : x.toList = L ↔ x = y := by
  rw [ByteArray.toList_eq, ← h]
  exact ⟨fun e => ByteArray.ext (Array.toList_inj.mp e), fun e => by rw [e]⟩
 refine ⟨?_, e⟩
 by_cases hx : x = y
 · rw [decide_eq_true hx, beq_iff_eq]; exact e.2 hx
 · rw [decide_eq_false hx, beq_eq_false_iff_ne]; exact fun h' => hx (e.1 h')
theorem row_monoS {W : World} {base base' e size n : Nat} {v : Value} {xs : List Value} (h : W.ownsRow base e size v n xs) (hb : base' ≤ base) : W.ownsRow base' e size v n xs := by
 obtain ⟨h1, h | ⟨g, cap, cur, hv, hg, r⟩⟩ := h
 · exact ⟨h1, Or.inl h⟩
 · exact ⟨h1, Or.inr ⟨g, cap, cur, hv, Nat.le_trans hb hg, r⟩⟩
abbrev fnV (nm rs lf rt : ByteArray) (ls lb at' li : Value) (br : Bool) : Array Value := #[.string nm, .string rs, .string lf, .string rt, ls, lb, at', li, .bool br]
end Go.Proofs.YtimfnalpmmkndaaGreatDoor
