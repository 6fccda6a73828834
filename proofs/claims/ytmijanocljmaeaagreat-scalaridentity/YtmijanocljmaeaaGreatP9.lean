/- rat.Add of one number: the number itself, in limbs of its own; scalar.same. -/
import Derived.Test.YtmijanocljmaeaaGreatJ4
import Derived.Test.YtmijanocljmaeaaGreatP6
set_option maxRecDepth 100000
set_option maxHeartbeats 8000000
set_option linter.unusedVariables false
set_option linter.unusedSimpArgs false
namespace Go.Proofs.YtmijanocljmaeaaGreat
open Go.RowKit
/-- A list of one number. -/
structure One1 (w:World) (Lb:Nat) (v0 v1 v2:Value):Prop where
 lt:Lb<w.heap.size
 m0:w.cell? ⟨Lb,0,none⟩=some v0
 m1:w.cell? ⟨Lb,1,none⟩=some v1
 m2:w.cell? ⟨Lb,2,none⟩=some v2
theorem One1.below {w w':World} {Lb:Nat} {v0 v1 v2:Value} (h:One1 w Lb v0 v1 v2) (k:Below w.heap.size w w'):One1 w' Lb v0 v1 v2:=
 ⟨Nat.lt_of_lt_of_le h.lt k.size,(k.cell (p:=⟨Lb,0,none⟩) h.lt).trans h.m0,(k.cell (p:=⟨Lb,1,none⟩) h.lt).trans h.m1,(k.cell (p:=⟨Lb,2,none⟩) h.lt).trans h.m2⟩
/-- A number in limbs of its own, without an error. -/
def NumO (base:Nat) (b:Bool) (ns ds:List Int) (e:Ending) (w':World):Prop:=∃ x1 y1 x2 y2,e=.returned (.tuple #[.agg #[.bool b,.slice x1 ns.length y1,.slice x2 ds.length y2],.int .i64 0])∧Own base w' (.slice x1 ns.length y1) ns∧Own base w' (.slice x2 ds.length y2) ds
section
variable {B Lb:Nat} {w:World} {bx:Bool} {a1 a2:Option Addr} {c1 c2:Nat} {xn xd:List Int}
theorem allRight1 (hT:One1 w Lb (.bool bx) (.slice a1 xn.length c1) (.slice a2 xd.length c2)) (h1:Rd B w (.slice a1 xn.length c1) xn) (h2:Rd B w (.slice a2 xd.length c2) xd) (hB:B≤w.heap.size) (hP:RightP bx xn xd) :
    Calls Tryz.prog 127 #[.slice (some ⟨Lb,0,none⟩) 1 1] w fun e w'=>e=.returned (.bool true)∧Below w.heap.size w w':=by
 obtain ⟨lt,k0,k1,k2⟩:=hT;have HP:Hid (RightP bx xn xd):=hP;clear hP;go_enter Tryz.func127,Tryz.ntmps127;go_wp2
 refine wp_loop_rounds 2 ?_;rw [rounds_succ]
 go_wp2_with fail
 have e0:=below_alloc w (.cells #[.bool bx,.slice a1 xn.length c1,.slice a2 xd.length c2] 33);have z0:w.heap.size<(w.alloc (.cells #[.bool bx,.slice a1 xn.length c1,.slice a2 xd.length c2] 33)).heap.size:=by simp
 refine (right_rat (h1.below (e0.mono hB)) (h2.below (e0.mono hB)) (by omega)).mono ?_;rintro e wa ⟨⟨r,rfl,hr⟩,ba⟩;obtain rfl:=hr.2 HP.out;have b1:Below w.heap.size w wa:=e0.trans (ba.mono (by omega));clear e0 z0 ba hr;go_wp2
 rw [rounds_succ];go_wp2
 go_ret
 exact ⟨rfl,b1⟩
theorem fold1P (o0:Value) (o1 o2:Option Addr) (m1 m2 m3 m4:Nat) (ob:Bool) (hT:One1 w Lb (.bool bx) (.slice a1 xn.length c1) (.slice a2 xd.length c2)) (h1:Rd B w (.slice a1 xn.length c1) xn) (h2:Rd B w (.slice a2 xd.length c2) xd) (hB:B≤w.heap.size) (hP:RightP bx xn xd) :
    Calls Tryz.prog 130 #[.agg #[.bool ob,.slice o1 m1 m2,.slice o2 m3 m4],.func (Fn.func 131) #[] #[],.slice (some ⟨Lb,0,none⟩) 1 1] w fun e w'=>NumO w.heap.size bx xn xd e w'∧Below w.heap.size w w':=by
 have hbR:Box3 ((w.alloc (.cells #[.bool ob,.slice o1 m1 m2,.slice o2 m3 m4] 33)).alloc (.cells #[.bool false,.slice none 0 0,.slice none 0 0] 33)) (w.heap.size+1) 33 (.bool false) (.slice none 0 0) (.slice none 0 0):=by
  have h5:=box3_new (w.alloc (.cells #[.bool ob,.slice o1 m1 m2,.slice o2 m3 m4] 33)) (.bool false) (.slice none 0 0) (.slice none 0 0) 33;simpa using h5
 have b0:Below w.heap.size w ((w.alloc (.cells #[.bool ob,.slice o1 m1 m2,.slice o2 m3 m4] 33)).alloc (.cells #[.bool false,.slice none 0 0,.slice none 0 0] 33)):=(below_alloc w _).alloc (by simp) _;have s0:w.heap.size+1<((w.alloc (.cells #[.bool ob,.slice o1 m1 m2,.slice o2 m3 m4] 33)).alloc (.cells #[.bool false,.slice none 0 0,.slice none 0 0] 33)).heap.size:=by simp
 have g1:=h1.below (b0.mono hB);have g2:=h2.below (b0.mono hB);have hTP:=hT.below b0;have hlt:=hT.lt;have HX:Hid (RightP bx xn xd):=hP;clear h1 h2 hT hP;go_enter Tryz.func130,Tryz.ntmps130
 go_wp2_with fail
 generalize hA:((w.alloc (.cells #[.bool ob,.slice o1 m1 m2,.slice o2 m3 m4] 33)).alloc (.cells #[.bool false,.slice none 0 0,.slice none 0 0] 33))=wP at *;clear hA;refine (allRight1 hTP g1 g2 (by omega) HX.out).mono ?_;rintro e wa ⟨rfl,ba⟩;have sa:=ba.size;have hRa:=hbR.below ba s0;have hTa:=hTP.below ba;obtain ⟨lt',m0',m1',m2'⟩:=hTa;have f1:=g1.below (ba.mono (by omega));have f2:=g2.below (ba.mono (by omega));clear g1 g2 hTP;have HB:Hid ((bx && decide (0<xn.length))=bx):=by
  unfold Hid
  cases bx with
  | false=>rfl
  | true=>
   have h5:=HX.out.2.2.2.2.1;rw [decide_eq_true (by by_cases h6:xn.length=0;exact absurd ⟨rfl,h6⟩ h5;omega)];rfl
 have hne1:¬ wa.heap.size=Lb:=by omega
 have hne2:¬ Lb=wa.heap.size:=by omega
 have e1:Rd B wa.drew (.slice a1 xn.length c1) xn:=f1;have e2:Rd B wa.drew (.slice a2 xd.length c2) xd:=f2;have hBd:B≤wa.drew.heap.size:=show B≤wa.heap.size by omega
 have zI:=below_alloc wa.drew (.cells #[.bool false,.slice none 0 0,.slice none 0 0] 33);have i1:=e1.below (zI.mono hBd);have i2:=e2.below (zI.mono hBd);have hBI:B≤(wa.drew.alloc (.cells #[.bool false,.slice none 0 0,.slice none 0 0] 33)).heap.size:=Nat.le_trans hBd zI.size;have hbI:=box3_new wa.drew (.bool false) (.slice none 0 0) (.slice none 0 0) 33;have ltI:wa.drew.heap.size<(wa.drew.alloc (.cells #[.bool false,.slice none 0 0,.slice none 0 0] 33)).heap.size:=by simp
 have hTcells:∀ {w':World},Below wa.heap.size wa w'→w'.cell? ⟨Lb,0,none⟩=some (.bool bx)∧w'.cell? ⟨Lb,1,none⟩=some (.slice a1 xn.length c1)∧w'.cell? ⟨Lb,2,none⟩=some (.slice a2 xd.length c2):=fun hb=>⟨(hb.cell (p:=⟨Lb,0,none⟩) lt').trans m0',(hb.cell (p:=⟨Lb,1,none⟩) lt').trans m1',(hb.cell (p:=⟨Lb,2,none⟩) lt').trans m2'⟩;go_wp2
 go_region_held3 (fun w'=>w'.cell? ⟨Lb,0,none⟩=some (.bool bx)∧w'.cell? ⟨Lb,1,none⟩=some (.slice a1 xn.length c1)∧w'.cell? ⟨Lb,2,none⟩=some (.slice a2 xd.length c2))
  (first | (go_keep;done) | exact tw)
  ((go_at_call 104;refine (withSign_rat (by first | exact e1 | exact i1) (by first | exact e2 | exact i2) (by first | exact hBd | exact hBI) HX.out).mono ?_;rintro e wb ⟨bb,x1,y1,x2,y2,he,ox,od⟩;rw [HB.out] at he;subst he;first | (have hb8:Box3 wb wa.heap.size 33 (.bool false) (.slice none 0 0) (.slice none 0 0):=hbI.below bb ltI;have bab:Below wa.heap.size wa wb:=(Below.alloc (⟨rfl,rfl,rfl,Nat.le_refl _,fun _ _=>rfl⟩:Below wa.heap.size wa wa.drew) (Nat.le_refl _) _).trans (bb.mono (Nat.le_of_lt ltI));have oxa:Own wa.heap.size wb (.slice x1 xn.length y1) xn:=ox.mono (Nat.le_of_lt ltI);have oda:Own wa.heap.size wb (.slice x2 xd.length y2) xd:=od.mono (Nat.le_of_lt ltI);have q0:=hb8.c0;have q1:=hb8.c1;have q2:=hb8.c2;have p0:=hb8.f0;have p1:=hb8.f1;have p2:=hb8.f2;have tw:=hTcells bab) | (have bab:Below wa.heap.size wa wb:=⟨bb.os,bb.tape,bb.output,bb.size,bb.block⟩;have oxa:Own wa.heap.size wb (.slice x1 xn.length y1) xn:=ox;have oda:Own wa.heap.size wb (.slice x2 xd.length y2) xd:=od;have tw:=hTcells bab)))
 · have zb:=bab.size
   have hb8:=box3_new wb (.bool bx) (.slice x1 xn.length y1) (.slice x2 xd.length y2) 33;have ba8:Below wa.heap.size wa (wb.alloc (.cells #[.bool bx,.slice x1 xn.length y1,.slice x2 xd.length y2] 33)):=bab.alloc zb _;have ox8:=oxa.alloc (.cells #[.bool bx,.slice x1 xn.length y1,.slice x2 xd.length y2] 33);have od8:=oda.alloc (.cells #[.bool bx,.slice x1 xn.length y1,.slice x2 xd.length y2] 33);have lt8:wb.heap.size<(wb.alloc (.cells #[.bool bx,.slice x1 xn.length y1,.slice x2 xd.length y2] 33)).heap.size:=by simp
   have g8:wa.heap.size≤wb.heap.size:=zb;generalize hW8:(wb.alloc (.cells #[.bool bx,.slice x1 xn.length y1,.slice x2 xd.length y2] 33))=w8 at *;clear hW8;have z8:=ba8.size;have hR8:=hRa.below ba8 (by omega);have n0:=hb8.c0;have n1:=hb8.c1;have n2:=hb8.c2;have q0:=hR8.c0;have q1:=hR8.c1;have q2:=hR8.c2;have p0:=hR8.f0;have p1:=hR8.f1;have p2:=hR8.f2;have bw8:Below w.heap.size w w8:=b0.trans ((ba.mono (by omega)).trans (ba8.mono (by omega)));clear m0' m1' m2' e1 e2 i1 i2 f1 f2 tw hbI zI;go_wp2
   refine wp_loop_rounds 1 ?_;rw [rounds_succ];go_wp2
   have hR3:=hR8.set (.bool bx) (.slice x1 xn.length y1) (.slice x2 xd.length y2);have r0:=hR3.c0;have r1:=hR3.c1;have r2:=hR3.c2;refine bodyPost_ret (v:=.tuple #[.agg #[.bool bx,.slice x1 xn.length y1,.slice x2 xd.length y2],.int .i64 0]) (by simp [results,Tryz.results130,go_sem,r0,r1,r2]) rfl ?_;exact ⟨⟨x1,y1,x2,y2,rfl,(Own.set3 ox8 (by omega) _ _ _).mono (by omega),(Own.set3 od8 (by omega) _ _ _).mono (by omega)⟩,Below.set3 bw8 (by omega) _ _ _⟩
 · have hb8':=hb8
   replace hb8:=hb8'.set (.bool bx) (.slice x1 xn.length y1) (.slice x2 xd.length y2);have ba8:Below wa.heap.size wa (((wb.setCell ⟨wa.heap.size,0,none⟩ (.bool bx)).setCell ⟨wa.heap.size,1,none⟩ (.slice x1 xn.length y1)).setCell ⟨wa.heap.size,2,none⟩ (.slice x2 xd.length y2)):=Below.set3 bab (Nat.le_refl _) _ _ _;have ox8:Own wa.heap.size (((wb.setCell ⟨wa.heap.size,0,none⟩ (.bool bx)).setCell ⟨wa.heap.size,1,none⟩ (.slice x1 xn.length y1)).setCell ⟨wa.heap.size,2,none⟩ (.slice x2 xd.length y2)) (.slice x1 xn.length y1) xn:=(Own.set3 ox ltI _ _ _).mono (Nat.le_of_lt ltI);have od8:Own wa.heap.size (((wb.setCell ⟨wa.heap.size,0,none⟩ (.bool bx)).setCell ⟨wa.heap.size,1,none⟩ (.slice x1 xn.length y1)).setCell ⟨wa.heap.size,2,none⟩ (.slice x2 xd.length y2)) (.slice x2 xd.length y2) xd:=(Own.set3 od ltI _ _ _).mono (Nat.le_of_lt ltI);have lt8:wa.heap.size<(((wb.setCell ⟨wa.heap.size,0,none⟩ (.bool bx)).setCell ⟨wa.heap.size,1,none⟩ (.slice x1 xn.length y1)).setCell ⟨wa.heap.size,2,none⟩ (.slice x2 xd.length y2)).heap.size:=by
    have h5:wa.heap.size<wb.heap.size:=Nat.lt_of_lt_of_le ltI bb.size;simpa using h5
   have g8:wa.heap.size≤wa.heap.size:=Nat.le_refl _;clear hb8' q0 q1 q2 p0 p1 p2;generalize hW8:(((wb.setCell ⟨wa.heap.size,0,none⟩ (.bool bx)).setCell ⟨wa.heap.size,1,none⟩ (.slice x1 xn.length y1)).setCell ⟨wa.heap.size,2,none⟩ (.slice x2 xd.length y2))=w8 at *;clear hW8;have z8:=ba8.size;have hR8:=hRa.below ba8 (by omega);have n0:=hb8.c0;have n1:=hb8.c1;have n2:=hb8.c2;have q0:=hR8.c0;have q1:=hR8.c1;have q2:=hR8.c2;have p0:=hR8.f0;have p1:=hR8.f1;have p2:=hR8.f2;have bw8:Below w.heap.size w w8:=b0.trans ((ba.mono (by omega)).trans (ba8.mono (by omega)));clear m0' m1' m2' e1 e2 i1 i2 f1 f2 tw hbI zI;go_wp2
   refine wp_loop_rounds 1 ?_;rw [rounds_succ];go_wp2
   have hR3:=hR8.set (.bool bx) (.slice x1 xn.length y1) (.slice x2 xd.length y2);have r0:=hR3.c0;have r1:=hR3.c1;have r2:=hR3.c2;refine bodyPost_ret (v:=.tuple #[.agg #[.bool bx,.slice x1 xn.length y1,.slice x2 xd.length y2],.int .i64 0]) (by simp [results,Tryz.results130,go_sem,r0,r1,r2]) rfl ?_;exact ⟨⟨x1,y1,x2,y2,rfl,(Own.set3 ox8 (by omega) _ _ _).mono (by omega),(Own.set3 od8 (by omega) _ _ _).mono (by omega)⟩,Below.set3 bw8 (by omega) _ _ _⟩
theorem add1 (hT:One1 w Lb (.bool bx) (.slice a1 xn.length c1) (.slice a2 xd.length c2)) (h1:Rd B w (.slice a1 xn.length c1) xn) (h2:Rd B w (.slice a2 xd.length c2) xd) (hB:B≤w.heap.size) (hP:RightP bx xn xd) :
    Calls Tryz.prog 78 #[.slice (some ⟨Lb,0,none⟩) 1 1] w fun e w'=>NumO w.heap.size bx xn xd e w'∧Below w.heap.size w w':=by
 have hbR:=box3_new w (.bool false) (.slice none 0 0) (.slice none 0 0) 33;have b0:=below_alloc w (.cells #[.bool false,.slice none 0 0,.slice none 0 0] 33);have s0:w.heap.size<(w.alloc (.cells #[.bool false,.slice none 0 0,.slice none 0 0] 33)).heap.size:=by simp
 go_enter Tryz.func78,Tryz.ntmps78
 go_wp2_with fail
 generalize hA:w.alloc (.cells #[.bool false,.slice none 0 0,.slice none 0 0] 33)=wR at *;clear hA;refine (ofInt_zero _).mono ?_;rintro e wa ⟨ba,x1,n1,y1,x2,n2,y2,rfl⟩;have sa:=ba.size;have bwa:Below w.heap.size w wa:=b0.trans (ba.mono (by omega));have hf:=fold1P (B:=B) (.bool false) x1 x2 n1 y1 n2 y2 false (hT.below bwa) (h1.below (bwa.mono hB)) (h2.below (bwa.mono hB)) (by omega) hP;clear hP
 go_wp2_with fail
 refine hf.mono ?_;rintro e wb ⟨⟨x5,y5,x6,y6,rfl,o1,o2⟩,bb⟩;have bR:Below wR.heap.size wR wb:=ba.trans (bb.mono sa);have hR2:=hbR.below bR s0;have q0:=hR2.c0;have q1:=hR2.c1;have q2:=hR2.c2;have p0:=hR2.f0;have p1:=hR2.f1;have p2:=hR2.f2;clear hf;go_wp2
 have hR3:=hR2.set (.bool bx) (.slice x5 xn.length y5) (.slice x6 xd.length y6);have r0:=hR3.c0;have r1:=hR3.c1;have r2:=hR3.c2;refine bodyPost_ret (v:=.tuple #[.agg #[.bool bx,.slice x5 xn.length y5,.slice x6 xd.length y6],.int .i64 0]) (by simp [results,Tryz.results78,go_sem,r0,r1,r2]) rfl ?_;exact ⟨⟨x5,y5,x6,y6,rfl,(Own.set3 o1 (by omega) _ _ _).mono (by omega),(Own.set3 o2 (by omega) _ _ _).mono (by omega)⟩,Below.set3 (b0.trans (bR.mono (by omega))) (by omega) _ _ _⟩
theorem same5_any (h1:Rd w.heap.size w (.slice a1 xn.length c1) xn) (h2:Rd w.heap.size w (.slice a2 xd.length c2) xd) (hP:RightP bx xn xd) :
    Calls Tryz.prog 47 #[.agg #[.bool bx,.slice a1 xn.length c1,.slice a2 xd.length c2]] w fun e w'=>NumO w.heap.size bx xn xd e w'∧Below w.heap.size w w':=by
 have k1:=below_alloc w (.cells #[.bool bx,.slice a1 xn.length c1,.slice a2 xd.length c2] 33);have k2:=below_alloc (w.alloc (.cells #[.bool bx,.slice a1 xn.length c1,.slice a2 xd.length c2] 33)) (.cells #[.bool false,.slice none 0 0,.slice none 0 0] 33);have X:=(boxA_new w #[.bool bx,.slice a1 xn.length c1,.slice a2 xd.length c2] 33).below k2 (by simp);have R:=boxA_new (w.alloc (.cells #[.bool bx,.slice a1 xn.length c1,.slice a2 xd.length c2] 33)) #[.bool false,.slice none 0 0,.slice none 0 0] 33;rw [World.size_alloc] at R;have g:Below w.heap.size w ((w.alloc (.cells #[.bool bx,.slice a1 xn.length c1,.slice a2 xd.length c2] 33)).alloc (.cells #[.bool false,.slice none 0 0,.slice none 0 0] 33)):=k1.trans (k2.mono (by simp));have s2:w.heap.size+1<((w.alloc (.cells #[.bool bx,.slice a1 xn.length c1,.slice a2 xd.length c2] 33)).alloc (.cells #[.bool false,.slice none 0 0,.slice none 0 0] 33)).heap.size:=by simp
 have HP:Hid (RightP bx xn xd):=hP;have x0:=X.cell 0 rfl;have x1':=X.cell 1 rfl;have x2':=X.cell 2 rfl;clear k1 k2 hP;go_enter Tryz.func47,Tryz.ntmps47
 go_upto_region 1 with fail
 generalize hA:(w.alloc (.cells #[.bool bx,.slice a1 xn.length c1,.slice a2 xd.length c2] 33)).alloc (.cells #[.bool false,.slice none 0 0,.slice none 0 0] 33)=v at *;clear hA;have k3:=below_alloc v (.cells #[.bool bx,.slice a1 xn.length c1,.slice a2 xd.length c2] 33);have L:=boxA_new v #[.bool bx,.slice a1 xn.length c1,.slice a2 xd.length c2] 33;have g3:Below w.heap.size w (v.alloc (.cells #[.bool bx,.slice a1 xn.length c1,.slice a2 xd.length c2] 33)):=g.trans (k3.mono g.size);have C:=add1 (B:=w.heap.size) (Lb:=v.heap.size) ⟨L.lt,L.cell 0 rfl,L.cell 1 rfl,L.cell 2 rfl⟩ (h1.below g3) (h2.below g3) (g3.size) HP.out;have R3:=R.below k3 (by omega);clear h1 h2
 go_wp2_with fail
 generalize hB:v.alloc (.cells #[.bool bx,.slice a1 xn.length c1,.slice a2 xd.length c2] 33)=u at *;clear hB x0 x1' x2';refine C.mono ?_;rintro e w1 ⟨⟨x5,y5,x6,y6,rfl,o1,o2⟩,b1⟩;clear C;have su:=g3.size;have sv:=k3.size;have R4:=R3.below b1 (by omega);have r0:=R4.cell 0 rfl;have r1:=R4.cell 1 rfl;have r2:=R4.cell 2 rfl;have f0:=R4.frozen 0;have f1:=R4.frozen 1;have f2:=R4.frozen 2;have R5:=((R4.put 0 (.bool bx)).put 1 (.slice x5 xn.length y5)).put 2 (.slice x6 xd.length y6);have j0:=R5.cell 0 rfl;have j1:=R5.cell 1 rfl;have j2:=R5.cell 2 rfl;go_wp2
 refine bodyPost_ret (v:=.tuple #[.agg #[.bool bx,.slice x5 xn.length y5,.slice x6 xd.length y6],.int .i64 0]) (by simp [results,Tryz.results47,go_sem,j0,j1,j2]) rfl ?_;exact ⟨⟨x5,y5,x6,y6,rfl,(Own.set3 o1 (by omega) _ _ _).mono (by omega),(Own.set3 o2 (by omega) _ _ _).mono (by omega)⟩,Below.set3 (g3.trans (b1.mono g3.size)) (by omega) _ _ _⟩
end
section
variable {w:World} {bx cy:Bool} {a1 a2 a3 a4:Option Addr} {xn xd yn yd:List Int} {c1 c2 c3 c4:Nat}
end
section
variable {w:World} {bx cy:Bool} {a1 a2 a3 a4:Option Addr} {xn xd yn yd:List Int} {c1 c2 c3 c4:Nat}
end
end Go.Proofs.YtmijanocljmaeaaGreat
