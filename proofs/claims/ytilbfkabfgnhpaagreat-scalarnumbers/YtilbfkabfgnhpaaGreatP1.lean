/- What a function of two numbers makes of two arrays, as it is meant: errors, cells, items. -/
import Derived.Test.YtilbfkabfgnhpaaGreatK12
import Derived.Test.YtilbfkabfgnhpaaGreatKS1
import Derived.Test.YtilbfkabfgnhpaaGreatKS3
set_option linter.unusedVariables false
set_option linter.unusedSimpArgs false
namespace Go.Proofs.YtilbfkabfgnhpaaGreat
open Go.RowKit
/-- The glyph, which numbers it has no answer for, and what it tells of two: an error, and the number. -/
structure Dy where
 gl:Int
 no:Tr→Tr→Bool
 op:Tr→Tr→Int×Tr
/-- A number that is told, or an error. -/
def NumE (base:Nat) (er:Int) (T:Bool→List Int→List Int→Prop) (e:Ending) (w':World):Prop:=∃ b z1 ns u1 z2 ds u2,e=.returned (.tuple #[.agg #[.bool b,.slice z1 ns.length u1,.slice z2 ds.length u2],.int .i64 er])∧Own base w' (.slice z1 ns.length u1) ns∧Own base w' (.slice z2 ds.length u2) ds∧Hid (T b ns ds)
abbrev NumR5 (base:Nat) (r:Int×Tr) (e:Ending) (w':World):Prop:=NumE base r.1 (fun b ns ds=>r.1=0→numT b ns ds=r.2) e w'
section
variable {w:World} {p q n1 n2 n3 n4 c1 c2 c3 c4:Nat} {a1 a2 a3 a4:Option Addr} {gl:Int} {B:Bool}
end
end Go.Proofs.YtilbfkabfgnhpaaGreat
