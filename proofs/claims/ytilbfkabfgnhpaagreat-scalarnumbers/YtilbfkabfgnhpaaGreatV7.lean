/- scalar.One, scalar.Two and the document's: whatever the glyph, the numbers and the tolerance, both tell the same. -/
import Derived.Test.YtilbfkabfgnhpaaGreatV2
import Derived.Test.YtilbfkabfgnhpaaGreatV4
import Derived.Test.YtilbfkabfgnhpaaGreatV6
set_option linter.unusedVariables false
set_option linter.unusedSimpArgs false
namespace Go.Proofs.YtilbfkabfgnhpaaGreat
open Go.RowKit
theorem one_both (g:Int) (bx:Bool) (xn xd:List Int):∃ S:Sp,Uq S∧(∀ (w:World) (io pp:Int) (bt:Bool) (a1 a2 a5 a6:Option Addr) (c1 c2 n5 c5 n6 c6:Nat),Rd w.heap.size w (.slice a1 xn.length c1) xn→Rd w.heap.size w (.slice a2 xd.length c2) xd→Calls Tryz.prog 4 #[.agg #[.int .i64 io,.bool bt,.slice a5 n5 c5,.slice a6 n6 c6,.int .i64 pp],.int .i32 g,.agg #[.bool bx,.slice a1 xn.length c1,.slice a2 xd.length c2]] w fun e w'=>Told S w e w')∧(∀ (w:World) (a1 a2:Option Addr) (c1 c2:Nat),Rd w.heap.size w (.slice a1 xn.length c1) xn→Rd w.heap.size w (.slice a2 xd.length c2) xd→Calls Tryz.prog 5 #[.int .i32 g,.agg #[.bool bx,.slice a1 xn.length c1,.slice a2 xd.length c2]] w fun e w'=>Told S w e w'):=by
 refine ⟨_,uq_part (uq_part uq_one (uq_err 22)) (uq_err 23),fun w io pp bt a1 a2 a5 a6 c1 c2 n5 c5 n6 c6 h1 h2 => ?_,fun w a1 a2 c1 c2 h1 h2=>dmon_any h1 h2⟩;rcases tab1_cases g with ⟨hm,_⟩ | ⟨hm,hk⟩
 · exact (pone_all (by simpa using hm) h1 h2).mono fun e w' h=>h.yes hm
 · exact (one_none hk h1 h2).mono fun e w' h=>h.no (fun h=>by rw [hm] at h;cases h)
theorem two_both (g:Int) (bt:Bool) (tn td:List Int) (bx:Bool) (xn xd:List Int) (cy:Bool) (yn yd:List Int):∃ S:Sp,Uq S∧(∀ (w:World) (io pp:Int) (a1 a2 a3 a4 a5 a6:Option Addr) (c1 c2 c3 c4 c5 c6:Nat),Rd w.heap.size w (.slice a5 tn.length c5) tn→Rd w.heap.size w (.slice a6 td.length c6) td→Rd w.heap.size w (.slice a1 xn.length c1) xn→Rd w.heap.size w (.slice a2 xd.length c2) xd→Rd w.heap.size w (.slice a3 yn.length c3) yn→Rd w.heap.size w (.slice a4 yd.length c4) yd→Calls Tryz.prog 8 #[.agg #[.int .i64 io,.bool bt,.slice a5 tn.length c5,.slice a6 td.length c6,.int .i64 pp],.int .i32 g,.agg #[.bool bx,.slice a1 xn.length c1,.slice a2 xd.length c2],.agg #[.bool cy,.slice a3 yn.length c3,.slice a4 yd.length c4]] w fun e w'=>Told S w e w')∧(∀ (w:World) (a1 a2 a3 a4 a5 a6:Option Addr) (c1 c2 c3 c4 c5 c6:Nat),Rd w.heap.size w (.slice a5 tn.length c5) tn→Rd w.heap.size w (.slice a6 td.length c6) td→Rd w.heap.size w (.slice a1 xn.length c1) xn→Rd w.heap.size w (.slice a2 xd.length c2) xd→Rd w.heap.size w (.slice a3 yn.length c3) yn→Rd w.heap.size w (.slice a4 yd.length c4) yd→Calls Tryz.prog 9 #[.agg #[.bool bt,.slice a5 tn.length c5,.slice a6 td.length c6],.int .i32 g,.agg #[.bool bx,.slice a1 xn.length c1,.slice a2 xd.length c2],.agg #[.bool cy,.slice a3 yn.length c3,.slice a4 yd.length c4]] w fun e w'=>Told S w e w'):=by
 refine ⟨_,uq_part (uq_part uq_two (uq_err 22)) (uq_err 23),fun w io pp a1 a2 a3 a4 a5 a6 c1 c2 c3 c4 c5 c6 h1 h2 h3 h4 h5 h6 => ?_,fun w a1 a2 a3 a4 a5 a6 c1 c2 c3 c4 c5 c6 h1 h2 h3 h4 h5 h6=>ddy_any h1 h2 h3 h4 h5 h6⟩;rcases Bool.eq_false_or_eq_true (([43,45,215,247,8968,8970,124,42,33,60,8804,61,8805,62,8800,8743,8744,9074,9073]:List Int).contains g) with hm | hm
 · exact (ptwo_all (by simpa using hm) h1 h2 h3 h4 h5 h6).mono fun e w' h=>h.yes hm
 · refine (two_none (fun b => ?_) h1 h2 h3 h4 h5 h6).mono fun e w' h=>h.no (fun h=>by rw [hm] at h;cases h)
   rcases tab2_cases b g with ⟨hc,_⟩ | ⟨_,hk⟩
   · rw [hm] at hc
     cases hc
   · exact hk
end Go.Proofs.YtilbfkabfgnhpaaGreat
