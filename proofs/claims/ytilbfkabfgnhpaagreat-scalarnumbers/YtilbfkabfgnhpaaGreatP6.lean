/- scalar.unreckoned, by what hasNone tells. -/
import Derived.Test.YtilbfkabfgnhpaaGreatP1
import Derived.Test.YtilbfkabfgnhpaaGreatM2
import Derived.Test.YtilbfkabfgnhpaaGreatK8
set_option maxRecDepth 100000
set_option maxHeartbeats 8000000
set_option linter.unusedVariables false
set_option linter.unusedSimpArgs false
namespace Go.Proofs.YtilbfkabfgnhpaaGreat
open Go.RowKit
/-- A number's three cells. -/
def RatC (w:World) (p:Nat) (v0 v1 v2:Value):Prop:=w.cell? ⟨p,0,none⟩=some v0∧w.cell? ⟨p,1,none⟩=some v1∧w.cell? ⟨p,2,none⟩=some v2
section
variable {w:World} {bx cy:Bool} {a1 a2 a3 a4:Option Addr} {xn xd yn yd:List Int} {c1 c2 c3 c4:Nat} {d:Dy} {gl:Int} {B:Bool}
end
section
variable {w:World} {bx cy:Bool} {a1 a2 a3 a4:Option Addr} {xn xd yn yd:List Int} {c1 c2 c3 c4:Nat}
theorem times_two (h1:Rd w.heap.size w (.slice a1 xn.length c1) xn) (h2:Rd w.heap.size w (.slice a2 xd.length c2) xd) (h3:Rd w.heap.size w (.slice a3 yn.length c3) yn) (h4:Rd w.heap.size w (.slice a4 yd.length c4) yd) :
    Calls Tryz.prog 89 #[.agg #[.bool bx,.slice a1 xn.length c1,.slice a2 xd.length c2],.agg #[.bool cy,.slice a3 yn.length c3,.slice a4 yd.length c4]] w fun e w'=>Gives w (RightP bx xn xd∧RightP cy yn yd) (sg bx (val xn)*sg cy (val yn)) (val xd*val yd) e w':=by
 obtain ⟨Xv,Yv,b0⟩:=nvar_in2 (bx:=bx) (cy:=cy) h1 h2 h3 h4;have k3:=below_alloc ((w.alloc (.cells #[.bool bx,.slice a1 xn.length c1,.slice a2 xd.length c2] 24)).alloc (.cells #[.bool cy,.slice a3 yn.length c3,.slice a4 yd.length c4] 24)) (.cells #[.bool false,.slice none 0 0,.slice none 0 0] 24);have R:=boxA_new ((w.alloc (.cells #[.bool bx,.slice a1 xn.length c1,.slice a2 xd.length c2] 24)).alloc (.cells #[.bool cy,.slice a3 yn.length c3,.slice a4 yd.length c4] 24)) #[.bool false,.slice none 0 0,.slice none 0 0] 24;have sz:((w.alloc (.cells #[.bool bx,.slice a1 xn.length c1,.slice a2 xd.length c2] 24)).alloc (.cells #[.bool cy,.slice a3 yn.length c3,.slice a4 yd.length c4] 24)).heap.size=w.heap.size+2:=by simp
 have Xw:=Xv.below k3;have Yw:=Yv.below k3;have g:Below w.heap.size w (((w.alloc (.cells #[.bool bx,.slice a1 xn.length c1,.slice a2 xd.length c2] 24)).alloc (.cells #[.bool cy,.slice a3 yn.length c3,.slice a4 yd.length c4] 24)).alloc (.cells #[.bool false,.slice none 0 0,.slice none 0 0] 24)):=b0.trans (k3.mono (by omega));rw [sz] at R;obtain ⟨T2,Xt,Yt,bt⟩:=nvar_two Xw Yw;obtain ⟨x0,x1,x2⟩:=Xw.cells;obtain ⟨y0,y1,y2⟩:=Yw.cells;have Rt:=R.below bt R.lt;have C:=mul2 T2 Xt.rn Xt.rd Yt.rn Yt.rd (Nat.le_refl _);have s3:(((w.alloc (.cells #[.bool bx,.slice a1 xn.length c1,.slice a2 xd.length c2] 24)).alloc (.cells #[.bool cy,.slice a3 yn.length c3,.slice a4 yd.length c4] 24)).alloc (.cells #[.bool false,.slice none 0 0,.slice none 0 0] 24)).heap.size=w.heap.size+2+1:=by simp
 rw [s3] at C;clear k3 Xv Yv b0 h1 h2 h3 h4 T2 Xt Yt;go_enter Tryz.func89,Tryz.ntmps89
 go_wp2_with fail
 clear x0 x1 x2 y0 y1 y2 Xw Yw;generalize hA:((w.alloc (.cells #[.bool bx,.slice a1 xn.length c1,.slice a2 xd.length c2] 24)).alloc (.cells #[.bool cy,.slice a3 yn.length c3,.slice a4 yd.length c4] 24)).alloc (.cells #[.bool false,.slice none 0 0,.slice none 0 0] 24)=v at *;clear hA;generalize hB:v.alloc (.cells #[.bool bx,.slice a1 xn.length c1,.slice a2 xd.length c2,.bool cy,.slice a3 yn.length c3,.slice a4 yd.length c4] 24)=u at *;clear hB;have gu:Below w.heap.size w u:=g.trans (bt.mono g.size);have su:=bt.size;refine C.mono ?_;rintro e w1 ⟨k1,b,z1,m1,u1,z2,m2,u2,err,rfl,ho⟩;have R1:=Rt.below k1 Rt.lt;have lR:=R1.lt;have r0:=R1.cell 0 rfl;have r1:=R1.cell 1 rfl;have r2:=R1.cell 2 rfl;have f0:=R1.frozen 0;have f1:=R1.frozen 1;have f2:=R1.frozen 2;have R3:=((R1.put 0 (.bool b)).put 1 (.slice z1 m1 u1)).put 2 (.slice z2 m2 u2);have q0:=R3.cell 0 rfl;have q1:=R3.cell 1 rfl;have q2:=R3.cell 2 rfl;go_wp2
 refine bodyPost_ret (v:=.tuple #[.agg #[.bool b,.slice z1 m1 u1,.slice z2 m2 u2],.int .i64 err]) (by simp [results,Tryz.results89,go_sem,q0,q1,q2]) rfl ?_;refine ⟨Below.set3 (gu.trans (k1.mono gu.size)) (by omega) _ _ _,b,z1,m1,u1,z2,m2,u2,err,rfl,?_⟩;exact ho.out.turn (fun V xs hO=>((((hO.setCell (a:=⟨w.heap.size+2,0,none⟩) (fun e=>by have:=(hO.2.lt _ e).1;simp at this;omega) _).setCell (a:=⟨w.heap.size+2,1,none⟩) (fun e=>by have:=(hO.2.lt _ e).1;simp at this;omega) _).setCell (a:=⟨w.heap.size+2,2,none⟩) (fun e=>by have:=(hO.2.lt _ e).1;simp at this;omega) _).mono (by omega)))
end
end Go.Proofs.YtilbfkabfgnhpaaGreat
