/- scalar.unreckoned, by what hasNone tells. -/
import Derived.Test.YtmijanocljmaeaaGreatP1
import Derived.Test.YtmijanocljmaeaaGreatM2
import Derived.Test.YtmijanocljmaeaaGreatK8
set_option maxRecDepth 100000
set_option maxHeartbeats 16000000
set_option linter.unusedVariables false
set_option linter.unusedSimpArgs false
namespace Go.Proofs.YtmijanocljmaeaaGreat
section
open Go.RowKit
/-- A number's three cells. -/
def RatC (w:World) (p:Nat) (v0 v1 v2:Value):Prop:=w.cell? ⟨p,0,none⟩=some v0∧w.cell? ⟨p,1,none⟩=some v1∧w.cell? ⟨p,2,none⟩=some v2
section
variable {w:World} {bx cy:Bool} {a1 a2 a3 a4:Option Addr} {xn xd yn yd:List Int} {c1 c2 c3 c4:Nat} {d:Dy} {gl:Int} {B:Bool}
theorem unreck5_any (hN:Hid (∀ v p q,Below w.heap.size w v→RatC v p (.bool bx) (.slice a1 xn.length c1) (.slice a2 xd.length c2)→RatC v q (.bool cy) (.slice a3 yn.length c3) (.slice a4 yd.length c4)→Calls Tryz.prog 99 #[.int .i32 gl,.pointer (some ⟨p,0,none⟩),.pointer (some ⟨q,0,none⟩)] v fun e w'=>e=.returned (.bool B)∧w'=v)) :
    Calls Tryz.prog 41 #[.int .i32 gl,.agg #[.bool bx,.slice a1 xn.length c1,.slice a2 xd.length c2],.agg #[.bool cy,.slice a3 yn.length c3,.slice a4 yd.length c4]] w fun e w'=>e=.returned (.tuple #[.agg #[.bool false,.slice none 0 0,.slice none 0 0],.int .i64 (if B=true then 3 else 0)])∧Below w.heap.size w w':=by
 have k1:=below_alloc w (.cells #[.bool bx,.slice a1 xn.length c1,.slice a2 xd.length c2] 33);have k2:=below_alloc (w.alloc (.cells #[.bool bx,.slice a1 xn.length c1,.slice a2 xd.length c2] 33)) (.cells #[.bool cy,.slice a3 yn.length c3,.slice a4 yd.length c4] 33);have k3:=below_alloc ((w.alloc (.cells #[.bool bx,.slice a1 xn.length c1,.slice a2 xd.length c2] 33)).alloc (.cells #[.bool cy,.slice a3 yn.length c3,.slice a4 yd.length c4] 33)) (.cells #[.bool false,.slice none 0 0,.slice none 0 0] 33);have k23:Below (w.alloc (.cells #[.bool bx,.slice a1 xn.length c1,.slice a2 xd.length c2] 33)).heap.size (w.alloc (.cells #[.bool bx,.slice a1 xn.length c1,.slice a2 xd.length c2] 33)) (((w.alloc (.cells #[.bool bx,.slice a1 xn.length c1,.slice a2 xd.length c2] 33)).alloc (.cells #[.bool cy,.slice a3 yn.length c3,.slice a4 yd.length c4] 33)).alloc (.cells #[.bool false,.slice none 0 0,.slice none 0 0] 33)):=k2.trans (k3.mono (by simp));have g:Below w.heap.size w (((w.alloc (.cells #[.bool bx,.slice a1 xn.length c1,.slice a2 xd.length c2] 33)).alloc (.cells #[.bool cy,.slice a3 yn.length c3,.slice a4 yd.length c4] 33)).alloc (.cells #[.bool false,.slice none 0 0,.slice none 0 0] 33)):=k1.trans (k23.mono (by simp));have XB:=(boxA_new w #[.bool bx,.slice a1 xn.length c1,.slice a2 xd.length c2] 33).below k23 (by simp);have YB:=(boxA_new (w.alloc (.cells #[.bool bx,.slice a1 xn.length c1,.slice a2 xd.length c2] 33)) #[.bool cy,.slice a3 yn.length c3,.slice a4 yd.length c4] 33).below k3 (by simp);have RB:=boxA_new ((w.alloc (.cells #[.bool bx,.slice a1 xn.length c1,.slice a2 xd.length c2] 33)).alloc (.cells #[.bool cy,.slice a3 yn.length c3,.slice a4 yd.length c4] 33)) #[.bool false,.slice none 0 0,.slice none 0 0] 33;rw [World.size_alloc] at YB;have sz:((w.alloc (.cells #[.bool bx,.slice a1 xn.length c1,.slice a2 xd.length c2] 33)).alloc (.cells #[.bool cy,.slice a3 yn.length c3,.slice a4 yd.length c4] 33)).heap.size=w.heap.size+1+1:=by simp
 rw [sz] at RB;have sz3:w.heap.size+1+1<(((w.alloc (.cells #[.bool bx,.slice a1 xn.length c1,.slice a2 xd.length c2] 33)).alloc (.cells #[.bool cy,.slice a3 yn.length c3,.slice a4 yd.length c4] 33)).alloc (.cells #[.bool false,.slice none 0 0,.slice none 0 0] 33)).heap.size:=by simp
 have C1:=hN.out (((w.alloc (.cells #[.bool bx,.slice a1 xn.length c1,.slice a2 xd.length c2] 33)).alloc (.cells #[.bool cy,.slice a3 yn.length c3,.slice a4 yd.length c4] 33)).alloc (.cells #[.bool false,.slice none 0 0,.slice none 0 0] 33)) w.heap.size (w.heap.size+1) g ⟨XB.cell 0 rfl,XB.cell 1 rfl,XB.cell 2 rfl⟩ ⟨YB.cell 0 rfl,YB.cell 1 rfl,YB.cell 2 rfl⟩;clear k1 k2 k3 k23 sz hN
 cases B
 all_goals
  go_enter Tryz.func41,Tryz.ntmps41
  go_wp2_with fail
  generalize hA:(((w.alloc (.cells #[.bool bx,.slice a1 xn.length c1,.slice a2 xd.length c2] 33)).alloc (.cells #[.bool cy,.slice a3 yn.length c3,.slice a4 yd.length c4] 33)).alloc (.cells #[.bool false,.slice none 0 0,.slice none 0 0] 33))=v at *;clear hA;refine C1.mono ?_;rintro e w1 ⟨rfl,hw⟩;obtain rfl:=hw.symm;clear C1;have r0:=RB.cell 0 rfl;have r1:=RB.cell 1 rfl;have r2:=RB.cell 2 rfl;have f0:=RB.frozen 0;have f1:=RB.frozen 1;have f2:=RB.frozen 2;have R3:=((RB.put 0 (.bool false)).put 1 (.slice none 0 0)).put 2 (.slice none 0 0);have j0:=R3.cell 0 rfl;have j1:=R3.cell 1 rfl;have j2:=R3.cell 2 rfl;go_wp2
  first | (refine bodyPost_ret (v:=.tuple #[.agg #[.bool false,.slice none 0 0,.slice none 0 0],.int .i64 0]) (by simp [results,Tryz.results41,go_sem,j0,j1,j2];done) rfl ?_;exact ⟨rfl,Below.set3 g (by omega) _ _ _⟩) | (refine bodyPost_ret (v:=.tuple #[.agg #[.bool false,.slice none 0 0,.slice none 0 0],.int .i64 3]) (by simp [results,Tryz.results41,go_sem,j0,j1,j2];done) rfl ?_;exact ⟨rfl,Below.set3 g (by omega) _ _ _⟩)
end
theorem un_of {d:Dy} (h:∀ (w:World) (bx cy:Bool) (a1 a2 a3 a4:Option Addr) (xn xd yn yd:List Int) (c1 c2 c3 c4:Nat),RightP bx xn xd→RightP cy yn yd→Rd w.heap.size w (.slice a1 xn.length c1) xn→Rd w.heap.size w (.slice a2 xd.length c2) xd→Rd w.heap.size w (.slice a3 yn.length c3) yn→Rd w.heap.size w (.slice a4 yd.length c4) yd→∀ v p q,Below w.heap.size w v→RatC v p (.bool bx) (.slice a1 xn.length c1) (.slice a2 xd.length c2)→RatC v q (.bool cy) (.slice a3 yn.length c3) (.slice a4 yd.length c4)→Calls Tryz.prog 99 #[.int .i32 d.gl,.pointer (some ⟨p,0,none⟩),.pointer (some ⟨q,0,none⟩)] v fun e w'=>e=.returned (.bool (d.no (numT bx xn xd) (numT cy yn yd)))∧w'=v):UnOK d:=by
 intro w bx cy a1 a2 a3 a4 xn xd yn yd c1 c2 c3 c4 rx ry h1 h2 h3 h4;refine (unreck5_any (h w bx cy a1 a2 a3 a4 xn xd yn yd c1 c2 c3 c4 rx ry h1 h2 h3 h4)).mono ?_;rintro e w' ⟨rfl,hb⟩;refine ⟨⟨false,none,[],0,none,[],0,?_,⟨lim_nil,World.ownsRow_nil _ _ _ _⟩,⟨lim_nil,World.ownsRow_nil _ _ _ _⟩,fun h => ?_⟩,hb⟩
 · unfold unS
   split <;> rename_i h <;> simp [h]
 · unfold unS
   split <;> rfl
/-- Glyphs that have an answer for every two numbers. -/
def PlainG (gl:Int):Prop:=gl=43∨gl=215∨gl=61∨gl=8800∨gl=8968∨gl=8970
theorem hasNone_plain {gl:Int} (hG:PlainG gl) (w:World) (p q:Nat):Calls Tryz.prog 99 #[.int .i32 gl,.pointer (some ⟨p,0,none⟩),.pointer (some ⟨q,0,none⟩)] w fun e w'=>e=.returned (.bool false)∧w'=w:=by
 rcases hG with rfl | rfl | rfl | rfl | rfl | rfl
 all_goals
  go_enter Tryz.func99,Tryz.ntmps99;go_wp2
  go_ret
  exact ⟨rfl,rfl⟩
theorem un_plain {d:Dy} (hG:PlainG d.gl) (hn:d.no=fun _ _=>false):UnOK d:=
 un_of (fun w bx cy a1 a2 a3 a4 xn xd yn yd c1 c2 c3 c4 _ _ _ _ _ _ v p q _ _ _=>by rw [hn];exact hasNone_plain hG v p q)
end
section
open Go.RowKit
open Classical in
/-- What is told of N by D, both known: an error, or the number. -/
noncomputable def ratOp (N D:Int):Int×Tr:=if h:∃ r:Int×Tr,∃ b ns ds,r.2=numT b ns ds∧OutSpec True N D b ns ds r.1 then Classical.choose h else (0,tr0)
theorem ratOp_is {N D:Int} (hD:0<D) {b:Bool} {ns ds:List Int} {er:Int} (h:OutSpec True N D b ns ds er):ratOp N D=(er,numT b ns ds):=by
 have hx:∃ r:Int×Tr,∃ b ns ds,r.2=numT b ns ds∧OutSpec True N D b ns ds r.1:=⟨(er,numT b ns ds),b,ns,ds,rfl,h⟩;unfold ratOp;rw [dif_pos hx];obtain ⟨b',ns',ds',e1,h'⟩:=Classical.choose_spec hx;obtain ⟨rfl,rfl,rfl,e2⟩:=OutSpec.unique (fun _=>hD) h h';exact Prod.ext e2 e1
theorem numE_gives {w w':World} {P:Prop} {N D:Int} {e:Ending} (h:Gives w P N D e w') (hP:P) (hD:0<D):NumR5 w.heap.size (ratOp N D) e w'∧Below w.heap.size w w':=by
 obtain ⟨hb,hor⟩:=gives_or h hP;refine ⟨?_,hb⟩;rcases hor with ⟨rfl,hbig⟩ | ⟨b,ns,ds,z1,u1,z2,u2,rfl,o1,o2,hr,hv⟩
 · rw [ratOp_is hD (Or.inr (Or.inl ⟨trivial,rfl,rfl,rfl,rfl,hbig⟩))]
   exact ⟨false,none,[],0,none,[],0,rfl,⟨lim_nil,World.ownsRow_nil _ _ _ _⟩,⟨lim_nil,World.ownsRow_nil _ _ _ _⟩,fun _=>rfl⟩
 · rw [ratOp_is hD (Or.inr (Or.inr ⟨trivial,rfl,hr,hv⟩))]
   exact ⟨b,z1,ns,u1,z2,ds,u2,rfl,o1,o2,fun _=>rfl⟩
theorem den_pos {b:Bool} {ns ds:List Int} (h:RightP b ns ds):0<val ds:=by
 obtain ⟨_,_,_,cd,_,hd,_⟩:=h;have:=can_low cd hd;have:=pw_pos (ds.length - 1);omega
noncomputable def plusD:Dy:=⟨43,fun _ _=>false,fun x y=>ratOp (sg x.b (val x.ns)*val y.ds+sg y.b (val y.ns)*val x.ds) (val x.ds*val y.ds)⟩
noncomputable def timesD:Dy:=⟨215,fun _ _=>false,fun x y=>ratOp (sg x.b (val x.ns)*sg y.b (val y.ns)) (val x.ds*val y.ds)⟩
theorem doOK_plus (p:Nat) (w0:World):DoOK plusD 77 #[] p w0:=by
 refine ⟨?_,enterB Tryz.func77 (by kernel_rfl) (by kernel_rfl)⟩;intro v _ bx cy a1 a2 a3 a4 xn xd yn yd c1 c2 c3 c4 rx ry h1 h2 h3 h4;exact (plus_two h1 h2 h3 h4).mono (fun e w' h=>numE_gives h ⟨rx,ry⟩ (Int.mul_pos (den_pos rx) (den_pos ry)))
section
variable {w:World} {bx cy:Bool} {a1 a2 a3 a4:Option Addr} {xn xd yn yd:List Int} {c1 c2 c3 c4:Nat}
theorem times_two (h1:Rd w.heap.size w (.slice a1 xn.length c1) xn) (h2:Rd w.heap.size w (.slice a2 xd.length c2) xd) (h3:Rd w.heap.size w (.slice a3 yn.length c3) yn) (h4:Rd w.heap.size w (.slice a4 yd.length c4) yd) :
    Calls Tryz.prog 80 #[.agg #[.bool bx,.slice a1 xn.length c1,.slice a2 xd.length c2],.agg #[.bool cy,.slice a3 yn.length c3,.slice a4 yd.length c4]] w fun e w'=>Gives w (RightP bx xn xd∧RightP cy yn yd) (sg bx (val xn)*sg cy (val yn)) (val xd*val yd) e w':=by
 obtain ⟨Xv,Yv,b0⟩:=nvar_in2 (bx:=bx) (cy:=cy) h1 h2 h3 h4;have k3:=below_alloc ((w.alloc (.cells #[.bool bx,.slice a1 xn.length c1,.slice a2 xd.length c2] 33)).alloc (.cells #[.bool cy,.slice a3 yn.length c3,.slice a4 yd.length c4] 33)) (.cells #[.bool false,.slice none 0 0,.slice none 0 0] 33);have R:=boxA_new ((w.alloc (.cells #[.bool bx,.slice a1 xn.length c1,.slice a2 xd.length c2] 33)).alloc (.cells #[.bool cy,.slice a3 yn.length c3,.slice a4 yd.length c4] 33)) #[.bool false,.slice none 0 0,.slice none 0 0] 33;have sz:((w.alloc (.cells #[.bool bx,.slice a1 xn.length c1,.slice a2 xd.length c2] 33)).alloc (.cells #[.bool cy,.slice a3 yn.length c3,.slice a4 yd.length c4] 33)).heap.size=w.heap.size+2:=by simp
 have Xw:=Xv.below k3;have Yw:=Yv.below k3;have g:Below w.heap.size w (((w.alloc (.cells #[.bool bx,.slice a1 xn.length c1,.slice a2 xd.length c2] 33)).alloc (.cells #[.bool cy,.slice a3 yn.length c3,.slice a4 yd.length c4] 33)).alloc (.cells #[.bool false,.slice none 0 0,.slice none 0 0] 33)):=b0.trans (k3.mono (by omega));rw [sz] at R;obtain ⟨T2,Xt,Yt,bt⟩:=nvar_two Xw Yw;obtain ⟨x0,x1,x2⟩:=Xw.cells;obtain ⟨y0,y1,y2⟩:=Yw.cells;have Rt:=R.below bt R.lt;have C:=mul2 T2 Xt.rn Xt.rd Yt.rn Yt.rd (Nat.le_refl _);have s3:(((w.alloc (.cells #[.bool bx,.slice a1 xn.length c1,.slice a2 xd.length c2] 33)).alloc (.cells #[.bool cy,.slice a3 yn.length c3,.slice a4 yd.length c4] 33)).alloc (.cells #[.bool false,.slice none 0 0,.slice none 0 0] 33)).heap.size=w.heap.size+2+1:=by simp
 rw [s3] at C;clear k3 Xv Yv b0 h1 h2 h3 h4 T2 Xt Yt;go_enter Tryz.func80,Tryz.ntmps80
 go_wp2_with fail
 clear x0 x1 x2 y0 y1 y2 Xw Yw;generalize hA:((w.alloc (.cells #[.bool bx,.slice a1 xn.length c1,.slice a2 xd.length c2] 33)).alloc (.cells #[.bool cy,.slice a3 yn.length c3,.slice a4 yd.length c4] 33)).alloc (.cells #[.bool false,.slice none 0 0,.slice none 0 0] 33)=v at *;clear hA;generalize hB:v.alloc (.cells #[.bool bx,.slice a1 xn.length c1,.slice a2 xd.length c2,.bool cy,.slice a3 yn.length c3,.slice a4 yd.length c4] 33)=u at *;clear hB;have gu:Below w.heap.size w u:=g.trans (bt.mono g.size);have su:=bt.size;refine C.mono ?_;rintro e w1 ⟨k1,b,z1,m1,u1,z2,m2,u2,err,rfl,ho⟩;have R1:=Rt.below k1 Rt.lt;have lR:=R1.lt;have r0:=R1.cell 0 rfl;have r1:=R1.cell 1 rfl;have r2:=R1.cell 2 rfl;have f0:=R1.frozen 0;have f1:=R1.frozen 1;have f2:=R1.frozen 2;have R3:=((R1.put 0 (.bool b)).put 1 (.slice z1 m1 u1)).put 2 (.slice z2 m2 u2);have q0:=R3.cell 0 rfl;have q1:=R3.cell 1 rfl;have q2:=R3.cell 2 rfl;go_wp2
 refine bodyPost_ret (v:=.tuple #[.agg #[.bool b,.slice z1 m1 u1,.slice z2 m2 u2],.int .i64 err]) (by simp [results,Tryz.results80,go_sem,q0,q1,q2]) rfl ?_;refine ⟨Below.set3 (gu.trans (k1.mono gu.size)) (by omega) _ _ _,b,z1,m1,u1,z2,m2,u2,err,rfl,?_⟩;exact ho.out.turn (fun V xs hO=>((((hO.setCell (a:=⟨w.heap.size+2,0,none⟩) (fun e=>by have:=(hO.2.lt _ e).1;simp at this;omega) _).setCell (a:=⟨w.heap.size+2,1,none⟩) (fun e=>by have:=(hO.2.lt _ e).1;simp at this;omega) _).setCell (a:=⟨w.heap.size+2,2,none⟩) (fun e=>by have:=(hO.2.lt _ e).1;simp at this;omega) _).mono (by omega)))
end
theorem doOK_times (p:Nat) (w0:World):DoOK timesD 80 #[] p w0:=by
 refine ⟨?_,enterB Tryz.func80 (by kernel_rfl) (by kernel_rfl)⟩;intro v _ bx cy a1 a2 a3 a4 xn xd yn yd c1 c2 c3 c4 rx ry h1 h2 h3 h4;exact (times_two h1 h2 h3 h4).mono (fun e w' h=>numE_gives h ⟨rx,ry⟩ (Int.mul_pos (den_pos rx) (den_pos ry)))
end
end Go.Proofs.YtmijanocljmaeaaGreat
