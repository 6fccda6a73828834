/-
  NARROWER THAN 'FOR EVERY INPUT', by the rows' own cells (each row's printed sentence says how): ArrayRight: loops · ArrayBack: loops · ArrayDeeper: loops.
  DERIVED. THE GIVEN ROWS OF THIS SEAT. 4 by the template 'for every input the law returns true; each argument reads behind the call as it read before'; 0 by the template 'total and deterministic' (their statements: YtnkaimkdlpieaaaTotals.lean).
  GIVEN WITH THE SEED: the statements are not yours to turn. If you find one false, say at which input.
  Laid BY PROGRAM, IN A SANDBOX (cutbox-rows.mjs): the forced cells as the released guide's own fill.sh prints them over the translation bcd80fe51c1847e0… (all of the seat's roots in one cut). By AI agents, Wed Nov 11 2026. No macro, syntax, notation, axiom, sorry.
-/
import Derived.Test.YtnkaimkdlpieaaaChecked
import GoSem.Claim
import GoSem.ClaimJoined
import GoSem.ClaimMapViews
import Derived.JoinedTies
import Derived.KernelRfl
namespace Go.Proofs.Ytnkaimkdlpieaaa
/- THE CELL 'sum', in the pinned program and in every row, IS THE sha256 OF THE DUMP (.gsa) THAT YtnkaimkdlpieaaaProg.lean LOADS. Nothing in Lean hashes anything: it is a label: what it is worth is what the hold of that sum in a sandbox is worth. -/
noncomputable def Try.pinned : Pinned := { name := "ytnkaimkdlpieaaa", sum := "bcd80fe51c1847e06265bea377de9c04d4149c3a37f03996ae2c0d4b55479579", checked := Try.checked }
namespace Rows
def none {H : Type} : Left H := { results := [], args := [] }

/-- 'glyphlaw03.ArrayRight': WHATEVER THE INPUT: true; the input reads as it did. -/
def arrayRightSpec : ChangeSpec := { name := "arrayRight", fn := fun _ => fun
  | [d] => { results := [.lit (.bool true)], args := [d] }
  | _ => none }
def arrayRightRow : OpenClaim := { program := "ytnkaimkdlpieaaa", sum := "bcd80fe51c1847e06265bea377de9c04d4149c3a37f03996ae2c0d4b55479579", func := "glyph/glyphlaw03.ArrayRight", spec := "arrayRight", unfollowed := true, recurses := true, loops := true, apart := false }
def ArrayRightSaid : Prop := arrayRightRow.holds Try.pinned (OpenSpec.ofChange arrayRightSpec)

/-- ITS FALSE NEIGHBOUR: 'it returns false'. Refute it at one input. -/
def arrayRightWrong : ChangeSpec := { name := "arrayRight", fn := fun _ => fun
  | [d] => { results := [.lit (.bool false)], args := [d] }
  | _ => none }
def ArrayRightWrongFalsely : Prop := arrayRightRow.holds Try.pinned (OpenSpec.ofChange arrayRightWrong)

/-- 'glyphlaw03.ArrayInts': WHATEVER THE INPUT: true; the input reads as it did. -/
def arrayIntsSpec : ChangeSpec := { name := "arrayInts", fn := fun _ => fun
  | [d] => { results := [.lit (.bool true)], args := [d] }
  | _ => none }
def arrayIntsRow : OpenClaim := { program := "ytnkaimkdlpieaaa", sum := "bcd80fe51c1847e06265bea377de9c04d4149c3a37f03996ae2c0d4b55479579", func := "glyph/glyphlaw03.ArrayInts", spec := "arrayInts", unfollowed := true, recurses := true, apart := false }
def ArrayIntsSaid : Prop := arrayIntsRow.holds Try.pinned (OpenSpec.ofChange arrayIntsSpec)

/-- ITS FALSE NEIGHBOUR: 'it returns false'. Refute it at one input. -/
def arrayIntsWrong : ChangeSpec := { name := "arrayInts", fn := fun _ => fun
  | [d] => { results := [.lit (.bool false)], args := [d] }
  | _ => none }
def ArrayIntsWrongFalsely : Prop := arrayIntsRow.holds Try.pinned (OpenSpec.ofChange arrayIntsWrong)

/-- 'glyphlaw03.ArrayBack': WHATEVER THE INPUT: true; the input reads as it did. -/
def arrayBackSpec : ChangeSpec := { name := "arrayBack", fn := fun _ => fun
  | [d] => { results := [.lit (.bool true)], args := [d] }
  | _ => none }
def arrayBackRow : OpenClaim := { program := "ytnkaimkdlpieaaa", sum := "bcd80fe51c1847e06265bea377de9c04d4149c3a37f03996ae2c0d4b55479579", func := "glyph/glyphlaw03.ArrayBack", spec := "arrayBack", unfollowed := true, recurses := true, loops := true, apart := false }
def ArrayBackSaid : Prop := arrayBackRow.holds Try.pinned (OpenSpec.ofChange arrayBackSpec)

/-- ITS FALSE NEIGHBOUR: 'it returns false'. Refute it at one input. -/
def arrayBackWrong : ChangeSpec := { name := "arrayBack", fn := fun _ => fun
  | [d] => { results := [.lit (.bool false)], args := [d] }
  | _ => none }
def ArrayBackWrongFalsely : Prop := arrayBackRow.holds Try.pinned (OpenSpec.ofChange arrayBackWrong)

/-- 'glyphlaw03.ArrayDeeper': WHATEVER THE INPUT: true; the input reads as it did. -/
def arrayDeeperSpec : ChangeSpec := { name := "arrayDeeper", fn := fun _ => fun
  | [d] => { results := [.lit (.bool true)], args := [d] }
  | _ => none }
def arrayDeeperRow : OpenClaim := { program := "ytnkaimkdlpieaaa", sum := "bcd80fe51c1847e06265bea377de9c04d4149c3a37f03996ae2c0d4b55479579", func := "glyph/glyphlaw03.ArrayDeeper", spec := "arrayDeeper", unfollowed := true, recurses := true, loops := true, apart := false }
def ArrayDeeperSaid : Prop := arrayDeeperRow.holds Try.pinned (OpenSpec.ofChange arrayDeeperSpec)

/-- ITS FALSE NEIGHBOUR: 'it returns false'. Refute it at one input. -/
def arrayDeeperWrong : ChangeSpec := { name := "arrayDeeper", fn := fun _ => fun
  | [d] => { results := [.lit (.bool false)], args := [d] }
  | _ => none }
def ArrayDeeperWrongFalsely : Prop := arrayDeeperRow.holds Try.pinned (OpenSpec.ofChange arrayDeeperWrong)

/- THE SECOND FORM. 'bulk': how many values and letters a reading holds, each counted each time it is reached (what is shared counts as often as it is met; a slice's spare places count too). A statement '..UptoSaid' is the law's where the arguments, and the package variables that the reading takes, are together of bulk at most 1048576: NARROWER than '..Said'. Prove '..Said' where nothing that the law and all that it calls make is longer than what came in: it says more and counts as full. Else prove '..UptoSaid'. A law counts once. -/
mutual
def uptoBulk {H : Type} : DataW H → Nat
  | .lit (.string bytes) => bytes.length + 1
  | .lit _ => 1
  | .nil => 1
  | .ptr d => uptoBulk d + 1
  | .slice elems spare => uptoBulkAll elems + uptoBulkAll spare + 1
  | .agg parts => uptoBulkAll parts + 1
  | .iface _ d => uptoBulk d + 1
  | .map entries => uptoBulkEntries entries + 1
  | .held _ => 1
def uptoBulkAll {H : Type} : List (DataW H) → Nat
  | [] => 0
  | d :: r => uptoBulk d + uptoBulkAll r
def uptoBulkEntries {H : Type} : List (Lit × DataW H) → Nat
  | [] => 0
  | x :: r => uptoBulkEntry x + uptoBulkEntries r
def uptoBulkEntry {H : Type} : Lit × DataW H → Nat
  | (.string bytes, d) => bytes.length + uptoBulk d + 1
  | (_, d) => uptoBulk d + 1
 end
def uptoSmall : (H : Type) → List (DataW H) → Bool := fun _ ds => decide (uptoBulkAll ds ≤ 1048576)
def OpenSpec.upto (s : _root_.Go.ChangeSpec) : _root_.Go.OpenSpec := { _root_.Go.OpenSpec.ofChange s with cond := some uptoSmall }

/-- 'glyphlaw03.ArrayRight', WHERE WHAT IT READS IS OF BULK AT MOST 1048576: true; the input reads as it did. -/
def arrayRightUptoRow : OpenClaim := { program := "ytnkaimkdlpieaaa", sum := "bcd80fe51c1847e06265bea377de9c04d4149c3a37f03996ae2c0d4b55479579", func := "glyph/glyphlaw03.ArrayRight", spec := "arrayRight", unfollowed := true, recurses := true, loops := true, apart := false, narrowed := true }
def ArrayRightUptoSaid : Prop := arrayRightUptoRow.holds Try.pinned (OpenSpec.upto arrayRightSpec)

/-- 'glyphlaw03.ArrayInts', WHERE WHAT IT READS IS OF BULK AT MOST 1048576: true; the input reads as it did. -/
def arrayIntsUptoRow : OpenClaim := { program := "ytnkaimkdlpieaaa", sum := "bcd80fe51c1847e06265bea377de9c04d4149c3a37f03996ae2c0d4b55479579", func := "glyph/glyphlaw03.ArrayInts", spec := "arrayInts", unfollowed := true, recurses := true, apart := false, narrowed := true }
def ArrayIntsUptoSaid : Prop := arrayIntsUptoRow.holds Try.pinned (OpenSpec.upto arrayIntsSpec)

/-- 'glyphlaw03.ArrayBack', WHERE WHAT IT READS IS OF BULK AT MOST 1048576: true; the input reads as it did. -/
def arrayBackUptoRow : OpenClaim := { program := "ytnkaimkdlpieaaa", sum := "bcd80fe51c1847e06265bea377de9c04d4149c3a37f03996ae2c0d4b55479579", func := "glyph/glyphlaw03.ArrayBack", spec := "arrayBack", unfollowed := true, recurses := true, loops := true, apart := false, narrowed := true }
def ArrayBackUptoSaid : Prop := arrayBackUptoRow.holds Try.pinned (OpenSpec.upto arrayBackSpec)

/-- 'glyphlaw03.ArrayDeeper', WHERE WHAT IT READS IS OF BULK AT MOST 1048576: true; the input reads as it did. -/
def arrayDeeperUptoRow : OpenClaim := { program := "ytnkaimkdlpieaaa", sum := "bcd80fe51c1847e06265bea377de9c04d4149c3a37f03996ae2c0d4b55479579", func := "glyph/glyphlaw03.ArrayDeeper", spec := "arrayDeeper", unfollowed := true, recurses := true, loops := true, apart := false, narrowed := true }
def ArrayDeeperUptoSaid : Prop := arrayDeeperUptoRow.holds Try.pinned (OpenSpec.upto arrayDeeperSpec)

end Rows
end Go.Proofs.Ytnkaimkdlpieaaa
