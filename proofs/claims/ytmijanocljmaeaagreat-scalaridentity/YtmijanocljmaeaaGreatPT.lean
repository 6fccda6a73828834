/- ScalarTurns: eight functions of two numbers are the same both ways round, through any two arrays. -/
import Derived.Test.YtmijanocljmaeaaGreatPR
import Derived.Test.YtmijanocljmaeaaGreatPA
import Derived.Test.YtmijanocljmaeaaGreatKS5
import Derived.Test.YtmijanocljmaeaaGreatM4
set_option linter.unusedVariables false
set_option linter.unusedSimpArgs false
namespace Go.Proofs.YtmijanocljmaeaaGreat
open Go.RowKit
section
variable {v:World} {D:Nat→Prop} {f:Nat} {x1 x2 x3 x4:Option Addr} {n1 y1 n2 y2 n3 y3 n4 y4:Nat} {t s:Tr} {d:Dy} {er:Int} {U:Tr}
theorem turn_kt (hT:TurnOK d) (hD:∀ g,D g→g<v.heap.size) (va:ArV f D v (.slice x1 n1 y1) (.slice x2 n2 y2) t) (vb:ArV f D v (.slice x3 n3 y3) (.slice x4 n4 y4) s) (he:dyadS d t s=(er,U)) :
    Hid (∀ u (ds0:List Int) ea ec,Hid (ds0=[(1:Int)])→Rd u.heap.size u (.slice ea ds0.length ec) ds0→Below v.heap.size v u→Calls Tryz.prog 7 #[.agg #[.int .i64 1,.bool false,.slice none 0 0,.slice ea ds0.length ec,.int .i64 0],.int .i32 d.gl,.agg #[.slice x1 n1 y1,.slice x2 n2 y2],.agg #[.slice x3 n3 y3,.slice x4 n4 y4]] u fun e w'=>(∃ x5 n5 y5 b3 m d3,e=.returned (.tuple #[.agg #[.slice x5 n5 y5,.slice b3 m d3],.int .i64 er])∧OutR u.heap.size w' er U x5 n5 y5 b3 m d3)∧Below u.heap.size u w'):=by
 intro u ds0 ea ec hd hr k;have hd':ds0=[1]:=hd;subst hd';have DI:D5In D f u false none ea [] [1] 0 ec x1 x2 x3 x4 n1 y1 n2 y2 n3 y3 n4 y4 t s:=⟨fun g h=>Nat.lt_of_lt_of_le (hD g h) k.size,va.agree (Agree.of k hD),vb.agree (Agree.of k hD),(own_nilT 0 u).rd,hr,one_right9⟩;refine (hT.call (io:=1) (pp:=0) DI).mono ?_;rintro e w' ⟨⟨x5,n5,y5,b3,m3,d3,rfl,h1,h2⟩,kb⟩;rw [he] at h1 h2 ⊢;exact ⟨⟨x5,n5,y5,b3,m3,d3,rfl,h1,h2⟩,kb⟩
theorem arV_zero {D:Nat→Prop} {w:World}:ArV 1 D w (.slice none 0 0) (.slice none 0 0) (arrT [] []):=
 ⟨⟨(fun x h=>by cases h),none,0,rfl,Nat.le_refl _,by omega,fun _=>rfl,Or.inl rfl⟩,⟨none,0,rfl,Nat.le_refl _,by simp,fun _=>rfl,Or.inl rfl⟩⟩
/-- Two variables that hold what was told, twice: the same array. -/
theorem outs_same {w:World} {er:Int} {U:Tr} {Z1 Z2:Nat} {w1 w2:World} {a1 a2 b1 b2:Option Addr} {p1 q1 p2 q2 p3 q3 p4 q4:Nat} (h1:OutR Z1 w1 er U a1 p1 q1 a2 p2 q2) (h2:OutR Z2 w2 er U b1 p3 q3 b2 p4 q4) (k1:Below w1.heap.size w1 w) (k2:Below w2.heap.size w2 w) :
    Calls Tryz.prog 10 #[.agg #[.slice a1 p1 q1,.slice a2 p2 q2],.agg #[.slice b1 p3 q3,.slice b2 p4 q4]] w fun e w'=>e=.returned (.bool true)∧Below w.heap.size w w':=by
 by_cases he:er=0
 · exact same_all 16 (· < w.heap.size) w _ _ _ _ _ _ _ _ _ _ _ _ _ (fun _ h=>h) (((h1.1 he).agree (Agree.of k1 (fun q hq=>hq.2))).mono (fun q hq=>Nat.lt_of_lt_of_le hq.2 k1.size)) (((h2.1 he).agree (Agree.of k2 (fun q hq=>hq.2))).mono (fun q hq=>Nat.lt_of_lt_of_le hq.2 k2.size))
 · obtain ⟨rfl,rfl,rfl,rfl,rfl,rfl⟩:=h1.2 he
   obtain ⟨rfl,rfl,rfl,rfl,rfl,rfl⟩:=h2.2 he;exact same_all 1 (· < w.heap.size) w _ _ _ _ _ _ _ _ _ _ _ _ (arrT [] []) (fun _ h=>h) arV_zero arV_zero
end
section
variable {w:World} {D:Nat→Prop} {f:Nat} {x1 x2 x3 x4:Option Addr} {n1 y1 n2 y2 n3 y3 n4 y4:Nat} {t s:Tr} {n:Int}
end
end Go.Proofs.YtmijanocljmaeaaGreat
