/- rat.fold of two numbers, by rat.plus. -/
import Derived.Test.YtilbfkabfgnhpaaGreatJ3
import Derived.Lib.ItoaNum
import Derived.Test.YtilbfkabfgnhpaaGreatJ2
set_option maxRecDepth 100000
set_option maxHeartbeats 16000000
set_option linter.unusedVariables false
set_option linter.unusedSimpArgs false
namespace Go.Proofs.YtilbfkabfgnhpaaGreat
open Go.RowKit
section
variable {B Lb:Nat} {w:World} {bx cy:Bool} {a1 a2 a3 a4:Option Addr} {c1 c2 c3 c4:Nat} {xn xd yn yd:List Int}
theorem fold2P (N D:Int) (o0:Value) (o1 o2:Option Addr) (m1 m2 m3 m4:Nat) (ob:Bool)
    (hstep:∀ (w':World) (B':Nat) (x1 x2:Option Addr) (y1 y2:Nat),Rd B' w' (.slice x1 xn.length y1) xn→Rd B' w' (.slice x2 xd.length y2) xd→Rd B' w' (.slice a3 yn.length c3) yn→Rd B' w' (.slice a4 yd.length c4) yd→B'≤w'.heap.size→RightP bx xn xd→RightP cy yn yd →
     Calls Tryz.prog 146 #[.agg #[.bool bx,.slice x1 xn.length y1,.slice x2 xd.length y2],.agg #[.bool cy,.slice a3 yn.length c3,.slice a4 yd.length c4]] w' fun e w''=>RMakes w' N D e w'')
    (hT:Two w Lb (.bool bx) (.slice a1 xn.length c1) (.slice a2 xd.length c2) (.bool cy) (.slice a3 yn.length c3) (.slice a4 yd.length c4)) (h1:Rd B w (.slice a1 xn.length c1) xn) (h2:Rd B w (.slice a2 xd.length c2) xd) (h3:Rd B w (.slice a3 yn.length c3) yn) (h4:Rd B w (.slice a4 yd.length c4) yd) (hB:B≤w.heap.size) :
    Calls Tryz.prog 145 #[.agg #[.bool ob,.slice o1 m1 m2,.slice o2 m3 m4],.func (Fn.func 146) #[] #[],.slice (some ⟨Lb,0,none⟩) 2 2] w fun e w'=>Gives w (RightP bx xn xd∧RightP cy yn yd) N D e w':=by
 have hbR:Box3 ((w.alloc (.cells #[.bool ob,.slice o1 m1 m2,.slice o2 m3 m4] 24)).alloc (.cells #[.bool false,.slice none 0 0,.slice none 0 0] 24)) (w.heap.size+1) 24 (.bool false) (.slice none 0 0) (.slice none 0 0):=by
  have h5:=box3_new (w.alloc (.cells #[.bool ob,.slice o1 m1 m2,.slice o2 m3 m4] 24)) (.bool false) (.slice none 0 0) (.slice none 0 0) 24;simpa using h5
 have b0:Below w.heap.size w ((w.alloc (.cells #[.bool ob,.slice o1 m1 m2,.slice o2 m3 m4] 24)).alloc (.cells #[.bool false,.slice none 0 0,.slice none 0 0] 24)):=(below_alloc w _).alloc (by simp) _;have s0:w.heap.size+1<((w.alloc (.cells #[.bool ob,.slice o1 m1 m2,.slice o2 m3 m4] 24)).alloc (.cells #[.bool false,.slice none 0 0,.slice none 0 0] 24)).heap.size:=by simp
 have g1:=h1.below (b0.mono hB);have g2:=h2.below (b0.mono hB);have g3:=h3.below (b0.mono hB);have g4:=h4.below (b0.mono hB);have hTP:=hT.below b0;have hlt:=hT.lt;clear h1 h2 h3 h4 hT;go_enter Tryz.func145,Tryz.ntmps145
 go_wp2_with fail
 generalize hA:((w.alloc (.cells #[.bool ob,.slice o1 m1 m2,.slice o2 m3 m4] 24)).alloc (.cells #[.bool false,.slice none 0 0,.slice none 0 0] 24))=wP at *;clear hA;refine (allRight2 hTP g1 g2 g3 g4 (by omega)).mono ?_;rintro e wa ⟨⟨r,rfl,hr⟩,ba⟩;have sa:=ba.size;have hRa:=hbR.below ba s0
 cases r with
 | false=>
  have HP:Hid (¬ (RightP bx xn xd∧RightP cy yn yd)):=fun h=>by have:=hr.2 h;cases this
  clear hr;have q0:=hRa.c0;have q1:=hRa.c1;have q2:=hRa.c2;have p0:=hRa.f0;have p1:=hRa.f1;have p2:=hRa.f2;go_wp2
  have hR3:=hRa.set (.bool false) (.slice none 0 0) (.slice none 0 0);have r0:=hR3.c0;have r1:=hR3.c1;have r2:=hR3.c2;refine bodyPost_ret (v:=.tuple #[.agg #[.bool false,.slice none 0 0,.slice none 0 0],.int .i64 22]) (by simp [results,Tryz.results145,go_sem,r0,r1,r2]) rfl ?_;exact ⟨Below.set3 (b0.trans (ba.mono (by omega))) (by omega) _ _ _,false,none,0,0,none,0,0,22,rfl,Or.inl ⟨HP.out,rfl,rfl,rfl,rfl,rfl,rfl,rfl,rfl⟩⟩
 | true=>
  have HP:Hid (RightP bx xn xd∧RightP cy yn yd):=hr.1 rfl;clear hr;have hTa:=hTP.below ba;obtain ⟨lt',m0',m1',m2',m3',m4',m5'⟩:=hTa;have f1:=g1.below (ba.mono (by omega));have f2:=g2.below (ba.mono (by omega));have f3:=g3.below (ba.mono (by omega));have f4:=g4.below (ba.mono (by omega));clear g1 g2 g3 g4 hTP;have HB:Hid ((bx && decide (0<xn.length))=bx):=by
   unfold Hid
   cases bx with
   | false=>rfl
   | true=>
    have h5:=HP.out.1.2.2.2.2.1;rw [decide_eq_true (by by_cases h6:xn.length=0;exact absurd ⟨rfl,h6⟩ h5;omega)];rfl
  have hne1:¬ wa.heap.size=Lb:=by omega
  have hne2:¬ Lb=wa.heap.size:=by omega
  have e1:Rd B wa.drew (.slice a1 xn.length c1) xn:=f1;have e2:Rd B wa.drew (.slice a2 xd.length c2) xd:=f2;have hBd:B≤wa.drew.heap.size:=show B≤wa.heap.size by omega
  have zI:=below_alloc wa.drew (.cells #[.bool false,.slice none 0 0,.slice none 0 0] 24);have i1:=e1.below (zI.mono hBd);have i2:=e2.below (zI.mono hBd);have hBI:B≤(wa.drew.alloc (.cells #[.bool false,.slice none 0 0,.slice none 0 0] 24)).heap.size:=Nat.le_trans hBd zI.size;have hbI:=box3_new wa.drew (.bool false) (.slice none 0 0) (.slice none 0 0) 24;have ltI:wa.drew.heap.size<(wa.drew.alloc (.cells #[.bool false,.slice none 0 0,.slice none 0 0] 24)).heap.size:=by simp
  have hTcells:∀ {w':World},Below wa.heap.size wa w'→w'.cell? ⟨Lb,0,none⟩=some (.bool bx)∧w'.cell? ⟨Lb,1,none⟩=some (.slice a1 xn.length c1)∧w'.cell? ⟨Lb,2,none⟩=some (.slice a2 xd.length c2):=fun hb=>⟨(hb.cell (p:=⟨Lb,0,none⟩) lt').trans m0',(hb.cell (p:=⟨Lb,1,none⟩) lt').trans m1',(hb.cell (p:=⟨Lb,2,none⟩) lt').trans m2'⟩;go_wp2
  go_region_held3 (fun w'=>w'.cell? ⟨Lb,0,none⟩=some (.bool bx)∧w'.cell? ⟨Lb,1,none⟩=some (.slice a1 xn.length c1)∧w'.cell? ⟨Lb,2,none⟩=some (.slice a2 xd.length c2))
   (first | (go_keep;done) | exact tw)
   ((go_at_call 112;refine (withSign_rat (by first | exact e1 | exact i1) (by first | exact e2 | exact i2) (by first | exact hBd | exact hBI) HP.out.1).mono ?_;rintro e wb ⟨bb,x1,y1,x2,y2,he,ox,od⟩;rw [HB.out] at he;subst he;first | (have hb8:Box3 wb wa.heap.size 24 (.bool false) (.slice none 0 0) (.slice none 0 0):=hbI.below bb ltI;have bab:Below wa.heap.size wa wb:=(Below.alloc (⟨rfl,rfl,rfl,Nat.le_refl _,fun _ _=>rfl⟩:Below wa.heap.size wa wa.drew) (Nat.le_refl _) _).trans (bb.mono (Nat.le_of_lt ltI));have oxa:Own wa.heap.size wb (.slice x1 xn.length y1) xn:=ox.mono (Nat.le_of_lt ltI);have oda:Own wa.heap.size wb (.slice x2 xd.length y2) xd:=od.mono (Nat.le_of_lt ltI);have q0:=hb8.c0;have q1:=hb8.c1;have q2:=hb8.c2;have p0:=hb8.f0;have p1:=hb8.f1;have p2:=hb8.f2;have tw:=hTcells bab) | (have bab:Below wa.heap.size wa wb:=⟨bb.os,bb.tape,bb.output,bb.size,bb.block⟩;have oxa:Own wa.heap.size wb (.slice x1 xn.length y1) xn:=ox;have oda:Own wa.heap.size wb (.slice x2 xd.length y2) xd:=od;have tw:=hTcells bab)))
  · have zb:=bab.size
    have hb8:=box3_new wb (.bool bx) (.slice x1 xn.length y1) (.slice x2 xd.length y2) 24;have ba8:Below wa.heap.size wa (wb.alloc (.cells #[.bool bx,.slice x1 xn.length y1,.slice x2 xd.length y2] 24)):=bab.alloc zb _;have ox8:=oxa.alloc (.cells #[.bool bx,.slice x1 xn.length y1,.slice x2 xd.length y2] 24);have od8:=oda.alloc (.cells #[.bool bx,.slice x1 xn.length y1,.slice x2 xd.length y2] 24);have lt8:wb.heap.size<(wb.alloc (.cells #[.bool bx,.slice x1 xn.length y1,.slice x2 xd.length y2] 24)).heap.size:=by simp
    have g8:wa.heap.size≤wb.heap.size:=zb;generalize hW8:(wb.alloc (.cells #[.bool bx,.slice x1 xn.length y1,.slice x2 xd.length y2] 24))=w8 at *;clear hW8;have z8:=ba8.size;have y3:=(ba8.cell (p:=⟨Lb,3,none⟩) lt').trans m3';have y4':=(ba8.cell (p:=⟨Lb,4,none⟩) lt').trans m4';have y5':=(ba8.cell (p:=⟨Lb,5,none⟩) lt').trans m5';have u3:=f3.below (ba8.mono (by omega));have u4:=f4.below (ba8.mono (by omega));have hR8:=hRa.below ba8 (by omega);have b9:=below_alloc w8 (.cells #[.bool cy,.slice a3 yn.length c3,.slice a4 yd.length c4] 24);have n0:=(b9.cell (p:=⟨wb.heap.size,0,none⟩) lt8).trans hb8.c0;have n1:=(b9.cell (p:=⟨wb.heap.size,1,none⟩) lt8).trans hb8.c1;have n2:=(b9.cell (p:=⟨wb.heap.size,2,none⟩) lt8).trans hb8.c2;have s9:=b9.size;clear m0' m1' m2' m3' m4' m5' e1 e2 i1 i2 f1 f2 f3 f4 tw hbI zI;go_wp2
    refine wp_loop_rounds 2 ?_;rw [rounds_succ]
    go_wp2_with fail
    refine (hstep _ (w8.alloc (.cells #[.bool cy,.slice a3 yn.length c3,.slice a4 yd.length c4] 24)).heap.size x1 x2 y1 y2 (ox8.alloc _).rd (od8.alloc _).rd ((u3.below (b9.mono (by omega))).mono (by omega)) ((u4.below (b9.mono (by omega))).mono (by omega)) (Nat.le_refl _) HP.out.1 HP.out.2).mono ?_;intro e w10 hm;obtain ⟨bm,b5,x5,n5,y5,x6,n6,y6,err,rfl,hform⟩:=hm.form;have bA:Below w8.heap.size w8 w10:=b9.trans (bm.mono s9);have h8':=hb8.below bA lt8;have hR10:=hR8.below bA (by omega);have q0:=h8'.c0;have q1:=h8'.c1;have q2:=h8'.c2;have p0:=h8'.f0;have p1:=h8'.f1;have p2:=h8'.f2;have bw10:Below w.heap.size w w10:=b0.trans ((ba.mono (by omega)).trans ((ba8.mono (by omega)).trans (bA.mono (by omega))));clear hm;rcases hform.out with ⟨rfl,rfl,rfl,rfl,rfl,rfl,rfl,rfl,hbig⟩ | ⟨rfl,ns,ds,rfl,rfl,on,od',hr,hv⟩
    · have HBG:Hid (Big N D):=hbig
      clear hbig hform;have hRs:=hR10.other (R:=wb.heap.size) (by omega) (.bool false) (.slice none 0 0) (.slice none 0 0);have j0:=hRs.c0;have j1:=hRs.c1;have j2:=hRs.c2;have l0:=hRs.f0;have l1:=hRs.f1;have l2:=hRs.f2;go_wp2
      have hR3:=hRs.set (.bool false) (.slice none 0 0) (.slice none 0 0);have r0:=hR3.c0;have r1:=hR3.c1;have r2:=hR3.c2;refine bodyPost_ret (v:=.tuple #[.agg #[.bool false,.slice none 0 0,.slice none 0 0],.int .i64 8]) (by simp [results,Tryz.results145,go_sem,r0,r1,r2]) rfl ?_;exact ⟨Below.set3 (Below.set3 bw10 (by omega) _ _ _) (by omega) _ _ _,false,none,0,0,none,0,0,8,rfl,Or.inr (Or.inl ⟨HP.out,rfl,rfl,rfl,rfl,rfl,rfl,rfl,rfl,HBG.out⟩)⟩
    · have HX:Hid (RightP b5 ns ds∧sg b5 (val ns)*D=N*val ds):=⟨hr,hv⟩
      clear hr hv hform;have hRs:=hR10.other (R:=wb.heap.size) (by omega) (.bool b5) (.slice x5 ns.length y5) (.slice x6 ds.length y6);have h8s:=h8'.set (.bool b5) (.slice x5 ns.length y5) (.slice x6 ds.length y6);have v0:=h8s.c0;have v1:=h8s.c1;have v2:=h8s.c2;have j0:=hRs.c0;have j1:=hRs.c1;have j2:=hRs.c2;have l0:=hRs.f0;have l1:=hRs.f1;have l2:=hRs.f2;go_wp2
      rw [rounds_succ];go_wp2
      have hR3:=hRs.set (.bool b5) (.slice x5 ns.length y5) (.slice x6 ds.length y6);have r0:=hR3.c0;have r1:=hR3.c1;have r2:=hR3.c2;refine bodyPost_ret (v:=.tuple #[.agg #[.bool b5,.slice x5 ns.length y5,.slice x6 ds.length y6],.int .i64 0]) (by simp [results,Tryz.results145,go_sem,r0,r1,r2]) rfl ?_;exact ⟨Below.set3 (Below.set3 bw10 (by omega) _ _ _) (by omega) _ _ _,b5,x5,ns.length,y5,x6,ds.length,y6,0,rfl,Or.inr (Or.inr ⟨HP.out,rfl,ns,ds,rfl,rfl,(Own.set3 (Own.set3 on (by omega) _ _ _) (by omega) _ _ _).mono (by omega),(Own.set3 (Own.set3 od' (by omega) _ _ _) (by omega) _ _ _).mono (by omega),HX.out.1,HX.out.2⟩)⟩
  · have hb8':=hb8
    replace hb8:=hb8'.set (.bool bx) (.slice x1 xn.length y1) (.slice x2 xd.length y2);have ba8:Below wa.heap.size wa (((wb.setCell ⟨wa.heap.size,0,none⟩ (.bool bx)).setCell ⟨wa.heap.size,1,none⟩ (.slice x1 xn.length y1)).setCell ⟨wa.heap.size,2,none⟩ (.slice x2 xd.length y2)):=Below.set3 bab (Nat.le_refl _) _ _ _;have ox8:Own wa.heap.size (((wb.setCell ⟨wa.heap.size,0,none⟩ (.bool bx)).setCell ⟨wa.heap.size,1,none⟩ (.slice x1 xn.length y1)).setCell ⟨wa.heap.size,2,none⟩ (.slice x2 xd.length y2)) (.slice x1 xn.length y1) xn:=(Own.set3 ox ltI _ _ _).mono (Nat.le_of_lt ltI);have od8:Own wa.heap.size (((wb.setCell ⟨wa.heap.size,0,none⟩ (.bool bx)).setCell ⟨wa.heap.size,1,none⟩ (.slice x1 xn.length y1)).setCell ⟨wa.heap.size,2,none⟩ (.slice x2 xd.length y2)) (.slice x2 xd.length y2) xd:=(Own.set3 od ltI _ _ _).mono (Nat.le_of_lt ltI);have lt8:wa.heap.size<(((wb.setCell ⟨wa.heap.size,0,none⟩ (.bool bx)).setCell ⟨wa.heap.size,1,none⟩ (.slice x1 xn.length y1)).setCell ⟨wa.heap.size,2,none⟩ (.slice x2 xd.length y2)).heap.size:=by
     have h5:wa.heap.size<wb.heap.size:=Nat.lt_of_lt_of_le ltI bb.size;simpa using h5
    have g8:wa.heap.size≤wa.heap.size:=Nat.le_refl _;clear hb8' q0 q1 q2 p0 p1 p2;generalize hW8:(((wb.setCell ⟨wa.heap.size,0,none⟩ (.bool bx)).setCell ⟨wa.heap.size,1,none⟩ (.slice x1 xn.length y1)).setCell ⟨wa.heap.size,2,none⟩ (.slice x2 xd.length y2))=w8 at *;clear hW8;have z8:=ba8.size;have y3:=(ba8.cell (p:=⟨Lb,3,none⟩) lt').trans m3';have y4':=(ba8.cell (p:=⟨Lb,4,none⟩) lt').trans m4';have y5':=(ba8.cell (p:=⟨Lb,5,none⟩) lt').trans m5';have u3:=f3.below (ba8.mono (by omega));have u4:=f4.below (ba8.mono (by omega));have hR8:=hRa.below ba8 (by omega);have b9:=below_alloc w8 (.cells #[.bool cy,.slice a3 yn.length c3,.slice a4 yd.length c4] 24);have n0:=(b9.cell (p:=⟨wa.heap.size,0,none⟩) lt8).trans hb8.c0;have n1:=(b9.cell (p:=⟨wa.heap.size,1,none⟩) lt8).trans hb8.c1;have n2:=(b9.cell (p:=⟨wa.heap.size,2,none⟩) lt8).trans hb8.c2;have s9:=b9.size;clear m0' m1' m2' m3' m4' m5' e1 e2 i1 i2 f1 f2 f3 f4 tw hbI zI;go_wp2
    refine wp_loop_rounds 2 ?_;rw [rounds_succ]
    go_wp2_with fail
    refine (hstep _ (w8.alloc (.cells #[.bool cy,.slice a3 yn.length c3,.slice a4 yd.length c4] 24)).heap.size x1 x2 y1 y2 (ox8.alloc _).rd (od8.alloc _).rd ((u3.below (b9.mono (by omega))).mono (by omega)) ((u4.below (b9.mono (by omega))).mono (by omega)) (Nat.le_refl _) HP.out.1 HP.out.2).mono ?_;intro e w10 hm;obtain ⟨bm,b5,x5,n5,y5,x6,n6,y6,err,rfl,hform⟩:=hm.form;have bA:Below w8.heap.size w8 w10:=b9.trans (bm.mono s9);have h8':=hb8.below bA lt8;have hR10:=hR8.below bA (by omega);have q0:=h8'.c0;have q1:=h8'.c1;have q2:=h8'.c2;have p0:=h8'.f0;have p1:=h8'.f1;have p2:=h8'.f2;have bw10:Below w.heap.size w w10:=b0.trans ((ba.mono (by omega)).trans ((ba8.mono (by omega)).trans (bA.mono (by omega))));clear hm;rcases hform.out with ⟨rfl,rfl,rfl,rfl,rfl,rfl,rfl,rfl,hbig⟩ | ⟨rfl,ns,ds,rfl,rfl,on,od',hr,hv⟩
    · have HBG:Hid (Big N D):=hbig
      clear hbig hform;have hRs:=hR10.other (R:=wa.heap.size) (by omega) (.bool false) (.slice none 0 0) (.slice none 0 0);have j0:=hRs.c0;have j1:=hRs.c1;have j2:=hRs.c2;have l0:=hRs.f0;have l1:=hRs.f1;have l2:=hRs.f2;go_wp2
      have hR3:=hRs.set (.bool false) (.slice none 0 0) (.slice none 0 0);have r0:=hR3.c0;have r1:=hR3.c1;have r2:=hR3.c2;refine bodyPost_ret (v:=.tuple #[.agg #[.bool false,.slice none 0 0,.slice none 0 0],.int .i64 8]) (by simp [results,Tryz.results145,go_sem,r0,r1,r2]) rfl ?_;exact ⟨Below.set3 (Below.set3 bw10 (by omega) _ _ _) (by omega) _ _ _,false,none,0,0,none,0,0,8,rfl,Or.inr (Or.inl ⟨HP.out,rfl,rfl,rfl,rfl,rfl,rfl,rfl,rfl,HBG.out⟩)⟩
    · have HX:Hid (RightP b5 ns ds∧sg b5 (val ns)*D=N*val ds):=⟨hr,hv⟩
      clear hr hv hform;have hRs:=hR10.other (R:=wa.heap.size) (by omega) (.bool b5) (.slice x5 ns.length y5) (.slice x6 ds.length y6);have h8s:=h8'.set (.bool b5) (.slice x5 ns.length y5) (.slice x6 ds.length y6);have v0:=h8s.c0;have v1:=h8s.c1;have v2:=h8s.c2;have j0:=hRs.c0;have j1:=hRs.c1;have j2:=hRs.c2;have l0:=hRs.f0;have l1:=hRs.f1;have l2:=hRs.f2;go_wp2
      rw [rounds_succ];go_wp2
      have hR3:=hRs.set (.bool b5) (.slice x5 ns.length y5) (.slice x6 ds.length y6);have r0:=hR3.c0;have r1:=hR3.c1;have r2:=hR3.c2;refine bodyPost_ret (v:=.tuple #[.agg #[.bool b5,.slice x5 ns.length y5,.slice x6 ds.length y6],.int .i64 0]) (by simp [results,Tryz.results145,go_sem,r0,r1,r2]) rfl ?_;exact ⟨Below.set3 (Below.set3 bw10 (by omega) _ _ _) (by omega) _ _ _,b5,x5,ns.length,y5,x6,ds.length,y6,0,rfl,Or.inr (Or.inr ⟨HP.out,rfl,ns,ds,rfl,rfl,(Own.set3 (Own.set3 on (by omega) _ _ _) (by omega) _ _ _).mono (by omega),(Own.set3 (Own.set3 od' (by omega) _ _ _) (by omega) _ _ _).mono (by omega),HX.out.1,HX.out.2⟩)⟩
end
/-- What rat.plus needs of a number. -/
def Weak (ns ds:List Int):Prop:=ns.length≤32∧ds.length≤32∧0<val ds
theorem RightP.weak {b:Bool} {ns ds:List Int} (h:RightP b ns ds):Weak ns ds:=⟨h.1,h.2.1,(right_pos h).1⟩
theorem plus_weak {B:Nat} {w:World} {bx cy:Bool} {a1 a2 a3 a4:Option Addr} {c1 c2 c3 c4:Nat} {xn xd yn yd:List Int} (h1:Rd B w (.slice a1 xn.length c1) xn) (h2:Rd B w (.slice a2 xd.length c2) xd) (h3:Rd B w (.slice a3 yn.length c3) yn) (h4:Rd B w (.slice a4 yd.length c4) yd) (hB:B≤w.heap.size) (hx:Weak xn xd) (hy:Weak yn yd) :
    Calls Tryz.prog 146 #[.agg #[.bool bx,.slice a1 xn.length c1,.slice a2 xd.length c2],.agg #[.bool cy,.slice a3 yn.length c3,.slice a4 yd.length c4]] w fun e w'=>RMakes w (sg bx (val xn)*val yd+sg cy (val yn)*val xd) (val xd*val yd) e w':=by
 have l1:=hx.1;have l2:=hx.2.1;have l3:=hy.1;have l4:=hy.2.1;have HD:Hid (0<val xd*val yd):=Int.mul_pos hx.2.2 hy.2.2;clear hx hy;have hbX:Box3 (((w.alloc (.cells #[.bool bx,.slice a1 xn.length c1,.slice a2 xd.length c2] 24)).alloc (.cells #[.bool cy,.slice a3 yn.length c3,.slice a4 yd.length c4] 24)).alloc (.cells #[.bool false,.slice none 0 0,.slice none 0 0] 24)) w.heap.size 24 (.bool bx) (.slice a1 xn.length c1) (.slice a2 xd.length c2):=((box3_new w _ _ _ _).below (below_alloc _ _) (by simp)).below (below_alloc _ _) (by simp;omega);have hbY:Box3 (((w.alloc (.cells #[.bool bx,.slice a1 xn.length c1,.slice a2 xd.length c2] 24)).alloc (.cells #[.bool cy,.slice a3 yn.length c3,.slice a4 yd.length c4] 24)).alloc (.cells #[.bool false,.slice none 0 0,.slice none 0 0] 24)) (w.heap.size+1) 24 (.bool cy) (.slice a3 yn.length c3) (.slice a4 yd.length c4):=by
  have h5:=(box3_new (w.alloc (.cells #[.bool bx,.slice a1 xn.length c1,.slice a2 xd.length c2] 24)) (.bool cy) (.slice a3 yn.length c3) (.slice a4 yd.length c4) 24).below (below_alloc _ (.cells #[.bool false,.slice none 0 0,.slice none 0 0] 24)) (by simp);simpa using h5
 have hbR:Box3 (((w.alloc (.cells #[.bool bx,.slice a1 xn.length c1,.slice a2 xd.length c2] 24)).alloc (.cells #[.bool cy,.slice a3 yn.length c3,.slice a4 yd.length c4] 24)).alloc (.cells #[.bool false,.slice none 0 0,.slice none 0 0] 24)) (w.heap.size+1+1) 24 (.bool false) (.slice none 0 0) (.slice none 0 0):=by
  have h5:=box3_new ((w.alloc (.cells #[.bool bx,.slice a1 xn.length c1,.slice a2 xd.length c2] 24)).alloc (.cells #[.bool cy,.slice a3 yn.length c3,.slice a4 yd.length c4] 24)) (.bool false) (.slice none 0 0) (.slice none 0 0) 24;simpa using h5
 have b0:Below w.heap.size w (((w.alloc (.cells #[.bool bx,.slice a1 xn.length c1,.slice a2 xd.length c2] 24)).alloc (.cells #[.bool cy,.slice a3 yn.length c3,.slice a4 yd.length c4] 24)).alloc (.cells #[.bool false,.slice none 0 0,.slice none 0 0] 24)):=((below_alloc w _).alloc (by simp) _).alloc (by simp;omega) _;have s0:w.heap.size+1+1<(((w.alloc (.cells #[.bool bx,.slice a1 xn.length c1,.slice a2 xd.length c2] 24)).alloc (.cells #[.bool cy,.slice a3 yn.length c3,.slice a4 yd.length c4] 24)).alloc (.cells #[.bool false,.slice none 0 0,.slice none 0 0] 24)).heap.size:=by simp
 have g1:=h1.below (b0.mono hB);have g2:=h2.below (b0.mono hB);have g3:=h3.below (b0.mono hB);have g4:=h4.below (b0.mono hB);clear h1 h2 h3 h4;go_enter Tryz.func146,Tryz.ntmps146;go_wp2
 generalize hA:(((w.alloc (.cells #[.bool bx,.slice a1 xn.length c1,.slice a2 xd.length c2] 24)).alloc (.cells #[.bool cy,.slice a3 yn.length c3,.slice a4 yd.length c4] 24)).alloc (.cells #[.bool false,.slice none 0 0,.slice none 0 0] 24))=wP at *;clear hA;have hcells:∀ {w':World},Below wP.heap.size wP w'→w'.cell? ⟨w.heap.size,0,none⟩=some (.bool bx)∧w'.cell? ⟨w.heap.size,1,none⟩=some (.slice a1 xn.length c1)∧w'.cell? ⟨w.heap.size,2,none⟩=some (.slice a2 xd.length c2)∧w'.cell? ⟨w.heap.size+1,0,none⟩=some (.bool cy)∧w'.cell? ⟨w.heap.size+1,1,none⟩=some (.slice a3 yn.length c3)∧w'.cell? ⟨w.heap.size+1,2,none⟩=some (.slice a4 yd.length c4):=fun hb=>⟨(hbX.below hb (by omega)).c0,(hbX.below hb (by omega)).c1,(hbX.below hb (by omega)).c2,(hbY.below hb (by omega)).c0,(hbY.below hb (by omega)).c1,(hbY.below hb (by omega)).c2⟩;obtain ⟨k0,k1,k2,k3,k4,k5⟩:=hcells (Below.refl _ _);have d1:Rd B wP.drew (.slice a1 xn.length c1) xn:=g1;have d2:Rd B wP.drew (.slice a2 xd.length c2) xd:=g2;have d3:Rd B wP.drew (.slice a3 yn.length c3) yn:=g3;have d4:Rd B wP.drew (.slice a4 yd.length c4) yd:=g4;have hBP:B≤wP.drew.heap.size:=show B≤wP.heap.size by omega
 have hmA1:=many2 d1 d4 hBP hBP;have hmD2:=many2 d3 d2 hBP hBP;have hmB1:=hmA1.grow (below_alloc _ (.cells #[.slice a3 yn.length c3,.slice a2 xd.length c2] 22));have hmB2:Many ((wP.drew.alloc (.cells #[.slice a1 xn.length c1,.slice a4 yd.length c4] 22)).alloc (.cells #[.slice a3 yn.length c3,.slice a2 xd.length c2] 22)) (wP.heap.size+1) 2 [.slice a3 yn.length c3,.slice a2 xd.length c2] [yn,xd]:=by
  have h:=many2 (d3.below ((below_alloc wP.drew (.cells #[.slice a1 xn.length c1,.slice a4 yd.length c4] 22)).mono hBP)) (d2.below ((below_alloc wP.drew (.cells #[.slice a1 xn.length c1,.slice a4 yd.length c4] 22)).mono hBP)) (B1:=B) (B2:=B) (by simp;exact Nat.le_succ_of_le hBP) (by simp;exact Nat.le_succ_of_le hBP);simp only [World.size_alloc,World.size_drew] at h;exact h
 have hmC1:Many ((wP.drew.alloc (.cells #[.slice a3 yn.length c3,.slice a2 xd.length c2] 22)).alloc (.cells #[.slice a1 xn.length c1,.slice a4 yd.length c4] 22)) (wP.heap.size+1) 2 [.slice a1 xn.length c1,.slice a4 yd.length c4] [xn,yd]:=by
  have h:=many2 (d1.below ((below_alloc wP.drew (.cells #[.slice a3 yn.length c3,.slice a2 xd.length c2] 22)).mono hBP)) (d4.below ((below_alloc wP.drew (.cells #[.slice a3 yn.length c3,.slice a2 xd.length c2] 22)).mono hBP)) (B1:=B) (B2:=B) (by simp;exact Nat.le_succ_of_le hBP) (by simp;exact Nat.le_succ_of_le hBP);simp only [World.size_alloc,World.size_drew] at h;exact h
 have hmC2:=hmD2.grow (below_alloc _ (.cells #[.slice a1 xn.length c1,.slice a4 yd.length c4] 22))
 go_region_held3 (fun w'=>w'.cell? ⟨w.heap.size,0,none⟩=some (.bool bx)∧w'.cell? ⟨w.heap.size,1,none⟩=some (.slice a1 xn.length c1)∧w'.cell? ⟨w.heap.size,2,none⟩=some (.slice a2 xd.length c2)∧w'.cell? ⟨w.heap.size+1,0,none⟩=some (.bool cy)∧w'.cell? ⟨w.heap.size+1,1,none⟩=some (.slice a3 yn.length c3)∧w'.cell? ⟨w.heap.size+1,2,none⟩=some (.slice a4 yd.length c4))
  (first | (go_keep;done) | exact tw | exact tw2 | exact tw3 | exact hcells (Below.alloc ba sa _))
  (first
   | (go_at_call 120;refine (prod_at (v1:=.slice a1 xn.length c1) (v2:=.slice a4 yd.length c4) (x1:=xn) (x2:=yd) (by first | exact hmA1 | exact hmB1 | exact hmC1) (by omega) (by omega)).mono ?_;rintro e wa ⟨za,ca,va,la,hma⟩;first | (obtain ⟨aa,qa,rfl,oa,ba⟩:=Makes.undrew (Makes.alloc (w:=wP.drew) (o:=(.cells #[.slice a1 xn.length c1,.slice a4 yd.length c4] 22)) hma);have sa:=ba.size;have tw:=hcells ba;have hm2:=many2 (g3.below (ba.mono (by omega))) (g2.below (ba.mono (by omega))) (B1:=B) (B2:=B) (by omega) (by omega)) | (obtain ⟨aa,qa,rfl,oa',ba'⟩:=hma;have hm2:=hmB2.grow ba';obtain ⟨aa2,qa2,he2,oa,ba⟩:=Makes.undrew (Makes.alloc (w:=wP.drew) (Makes.alloc (w:=wP.drew.alloc (.cells #[.slice a1 xn.length c1,.slice a4 yd.length c4] 22)) (⟨aa,qa,rfl,oa',ba'⟩:Makes _ _ wa za)));cases he2;have sa:=ba.size;have tw:=hcells ba) | (obtain ⟨aa,qa,rfl,oa',ba'⟩:=hma;have hm2:=hmC2.grow ba';obtain ⟨aa2,qa2,he2,oa,ba⟩:=Makes.undrew (Makes.alloc (w:=wP.drew) (Makes.alloc (w:=wP.drew.alloc (.cells #[.slice a3 yn.length c3,.slice a2 xd.length c2] 22)) (⟨aa,qa,rfl,oa',ba'⟩:Makes _ _ wa za)));cases he2;have sa:=ba.size;have tw:=hcells ba))
   | (go_at_call 120;refine (prod_at (v1:=.slice a3 yn.length c3) (v2:=.slice a2 xd.length c2) (x1:=yn) (x2:=xd) (by exact hm2) (by omega) (by omega)).mono ?_;rintro e wb ⟨zb,cb,vb,lb,hmb⟩;first | (obtain ⟨ab,qb,rfl,ob,bb⟩:=Makes.alloc (w:=wa) (o:=(.cells #[.slice a3 yn.length c3,.slice a2 xd.length c2] 22)) hmb;have sb:=bb.size;have tw2:=hcells (ba.trans (bb.mono sa))) | (obtain ⟨ab,qb,rfl,ob,bb⟩:=hmb;have sb:=bb.size;have tw2:=hcells (ba.trans (bb.mono sa))))
   | (go_at_call 174;refine (sum_rat (bx:=bx) (cy:=cy) 65 (sg bx (val xn)*val yd+sg cy (val yn)*val xd) (oa.below bb (Nat.le_refl _)).rd (Nat.le_refl _) ob.rd (Nat.le_refl _) (by omega) (by omega) (by omega) (by rw [va,vb,sg_mul,sg_mul])).mono ?_;rintro e w2 ⟨bm,b5,z5,x5,y5,rfl,o5,cz5,v5,l5⟩;have bPm:Below wP.heap.size wP w2:=(ba.trans (bb.mono sa)).trans (bm.mono (by omega));have tw3:=hcells bPm;have HV5:Hid (sg b5 (val z5)=sg bx (val xn)*val yd+sg cy (val yn)*val xd):=v5;clear v5))
 all_goals
  obtain ⟨m0,m1,m2,m3,m4,m5⟩:=tw3;have s2:wP.heap.size≤w2.heap.size:=bPm.size;have e2:=g2.below (bPm.mono (by omega));have e4:=g4.below (bPm.mono (by omega));clear k0 k1 k2 k3 k4 k5 d1 d2 d3 d4 hmA1 hmD2 hmB1 hmB2 hmC1 hmC2 hm2 tw tw2 oa ob va vb ca cb la lb
  go_wp2_with fail
  refine (prod2 e2 e4 (by omega) (by omega) (by omega) (by omega)).mono ?_;rintro e w4 ⟨z4,c4',v4,l4',x4,y4,rfl,o4,b4⟩;have s4:=b4.size;have bP4:Below wP.heap.size wP w4:=bPm.trans (b4.mono s2);have hmk:=make_any b5 (sg bx (val xn)*val yd+sg cy (val yn)*val xd) (o5.below b4 (Nat.le_refl _)).rd (Nat.le_refl _) o4.rd (Nat.le_refl _) (by omega) (by omega) (by rw [v4];exact HD.out) HV5.out.symm;rw [v4] at hmk;clear v4
  go_wp2_with fail
  refine hmk.mono ?_;intro e w6 hm6;obtain ⟨bm6,b6,x5',n5,y5',x6,n6,y6,err,rfl,hform⟩:=hm6.form;have bP6:Below wP.heap.size wP w6:=bP4.trans (bm6.mono (by omega));have hR2:=hbR.below bP6 s0;have q0:=hR2.c0;have q1:=hR2.c1;have q2:=hR2.c2;have p0:=hR2.f0;have p1:=hR2.f1;have p2:=hR2.f2;clear hmk hm6;go_wp2
  have hR3:=hR2.set (.bool b6) (.slice x5' n5 y5') (.slice x6 n6 y6);have r0:=hR3.c0;have r1:=hR3.c1;have r2:=hR3.c2;refine bodyPost_ret (v:=.tuple #[.agg #[.bool b6,.slice x5' n5 y5',.slice x6 n6 y6],.int .i64 err]) (by simp [results,Tryz.results146,go_sem,r0,r1,r2]) rfl ?_;exact rform_done b0 (by omega) s0 bP6 (hform_mono (by omega) hform)
theorem plus_rat {B:Nat} {w:World} {bx cy:Bool} {a1 a2 a3 a4:Option Addr} {c1 c2 c3 c4:Nat} {xn xd yn yd:List Int} (h1:Rd B w (.slice a1 xn.length c1) xn) (h2:Rd B w (.slice a2 xd.length c2) xd) (h3:Rd B w (.slice a3 yn.length c3) yn) (h4:Rd B w (.slice a4 yd.length c4) yd) (hB:B≤w.heap.size) (hx:RightP bx xn xd) (hy:RightP cy yn yd) :
    Calls Tryz.prog 146 #[.agg #[.bool bx,.slice a1 xn.length c1,.slice a2 xd.length c2],.agg #[.bool cy,.slice a3 yn.length c3,.slice a4 yd.length c4]] w fun e w'=>RMakes w (sg bx (val xn)*val yd+sg cy (val yn)*val xd) (val xd*val yd) e w':=
 plus_weak h1 h2 h3 h4 hB hx.weak hy.weak
theorem of_zero (w:World):Calls Tryz.prog 113 #[.int .u64 0] w fun e w'=>Makes w e w' []:=by
 refine (of_any 0 (by omega) (by omega) w).mono ?_;intro e w' h;exact h
theorem ofInt_one (w:World):Calls Tryz.prog 45 #[.int .i64 1] w fun e w'=>Below w.heap.size w w'∧∃ x1 y1 x2 y2,e=.returned (.agg #[.bool false,.slice x1 [(1:Int)].length y1,.slice x2 [(1:Int)].length y2])∧Own w.heap.size w' (.slice x1 [(1:Int)].length y1) [1]∧Own w.heap.size w' (.slice x2 [(1:Int)].length y2) [1]:=by
 have hbR:=box3_new w (.bool false) (.slice none 0 0) (.slice none 0 0) 24;have b0:=below_alloc w (.cells #[.bool false,.slice none 0 0,.slice none 0 0] 24);have s0:w.heap.size<(w.alloc (.cells #[.bool false,.slice none 0 0,.slice none 0 0] 24)).heap.size:=by simp
 go_enter Tryz.func45,Tryz.ntmps45
 go_wp2_with fail
 generalize hA:w.alloc (.cells #[.bool false,.slice none 0 0,.slice none 0 0] 24)=wR at *;clear hA;refine (of_any 1 (by omega) (by omega) _).mono ?_;intro e wa hm;rw [of_small 1 (by omega) (by omega)] at hm;obtain ⟨x1,y1,rfl,o1,ba⟩:=hm;have sa:=ba.size
 go_wp2_with fail
 refine (one_any _).mono ?_;rintro e wb ⟨x2,y2,rfl,o2,bb⟩;have bR:Below wR.heap.size wR wb:=ba.trans (bb.mono sa);have hR2:=hbR.below bR s0;have q0:=hR2.c0;have q1:=hR2.c1;have q2:=hR2.c2;have p0:=hR2.f0;have p1:=hR2.f1;have p2:=hR2.f2;have o1b:=o1.below bb (Nat.le_refl _);have o2b:Own wR.heap.size wb (.slice x2 [(1:Int)].length y2) [1]:=o2.mono sa;go_wp2
 have hR3:=hR2.set (.bool false) (.slice x1 1 y1) (.slice x2 1 y2);have r0:=hR3.c0;have r1:=hR3.c1;have r2:=hR3.c2;refine bodyPost_ret (v:=.agg #[.bool false,.slice x1 1 y1,.slice x2 1 y2]) (by simp [results,Tryz.results45,go_sem,r0,r1,r2]) rfl ?_;exact ⟨Below.set3 (b0.trans (bR.mono (by omega))) (Nat.le_refl _) _ _ _,x1,y1,x2,y2,rfl,(Own.set3 o1b s0 _ _ _).mono (by omega),(Own.set3 o2b s0 _ _ _).mono (by omega)⟩
theorem ofInt_zero (w:World):Calls Tryz.prog 45 #[.int .i64 0] w fun e w'=>Below w.heap.size w w'∧∃ x1 n1 y1 x2 n2 y2,e=.returned (.agg #[.bool false,.slice x1 n1 y1,.slice x2 n2 y2]):=by
 have hbR:=box3_new w (.bool false) (.slice none 0 0) (.slice none 0 0) 24;have b0:=below_alloc w (.cells #[.bool false,.slice none 0 0,.slice none 0 0] 24);have s0:w.heap.size<(w.alloc (.cells #[.bool false,.slice none 0 0,.slice none 0 0] 24)).heap.size:=by simp
 go_enter Tryz.func45,Tryz.ntmps45
 go_wp2_with fail
 generalize hA:w.alloc (.cells #[.bool false,.slice none 0 0,.slice none 0 0] 24)=wR at *;clear hA;refine (of_zero _).mono ?_;rintro e wa ⟨x1,y1,rfl,o1,ba⟩;have sa:=ba.size
 go_wp2_with fail
 refine (one_any _).mono ?_;rintro e wb ⟨x2,y2,rfl,o2,bb⟩;have bR:Below wR.heap.size wR wb:=ba.trans (bb.mono sa);have hR2:=hbR.below bR s0;have q0:=hR2.c0;have q1:=hR2.c1;have q2:=hR2.c2;have p0:=hR2.f0;have p1:=hR2.f1;have p2:=hR2.f2;go_wp2
 have hR3:=hR2.set (.bool false) (.slice x1 0 y1) (.slice x2 1 y2);have r0:=hR3.c0;have r1:=hR3.c1;have r2:=hR3.c2;refine bodyPost_ret (v:=.agg #[.bool false,.slice x1 0 y1,.slice x2 1 y2]) (by simp [results,Tryz.results45,go_sem,r0,r1,r2]) rfl ?_;exact ⟨Below.set3 (b0.trans (bR.mono (by omega))) (Nat.le_refl _) _ _ _,x1,0,y1,x2,1,y2,rfl⟩
/-- A reckoning's answer, laid into the variable of the result. -/
theorem gives_done {w wR w2 wF:World} {P:Prop} {N D:Int} {b:Bool} {x1 x2:Option Addr} {n m y1 y2 R:Nat} {err:Int} (b0:Below w.heap.size w wR) (hR:w.heap.size≤R) (s0:R<wR.heap.size) (hb:Below wR.heap.size wR w2) (hF:wR.heap.size≤wF.heap.size) (h:Hid (Out w2 wF.heap.size P N D b x1 n y1 x2 m y2 err)) :
    Gives w P N D (.returned (.tuple #[.agg #[.bool b,.slice x1 n y1,.slice x2 m y2],.int .i64 err])) (((w2.setCell ⟨R,0,none⟩ (.bool b)).setCell ⟨R,1,none⟩ (.slice x1 n y1)).setCell ⟨R,2,none⟩ (.slice x2 m y2)):=
 ⟨Below.set3 (b0.trans (hb.mono (by omega))) hR _ _ _,b,x1,n,y1,x2,m,y2,err,rfl,h.out.turn (fun v xs ho=>(Own.set3 ho (by omega) _ _ _).mono (by omega))⟩
section
variable {B Lb:Nat} {w:World} {bx cy:Bool} {a1 a2 a3 a4:Option Addr} {c1 c2 c3 c4:Nat} {xn xd yn yd:List Int}
theorem mul2 (hT:Two w Lb (.bool bx) (.slice a1 xn.length c1) (.slice a2 xd.length c2) (.bool cy) (.slice a3 yn.length c3) (.slice a4 yd.length c4)) (h1:Rd B w (.slice a1 xn.length c1) xn) (h2:Rd B w (.slice a2 xd.length c2) xd) (h3:Rd B w (.slice a3 yn.length c3) yn) (h4:Rd B w (.slice a4 yd.length c4) yd) (hB:B≤w.heap.size) :
    Calls Tryz.prog 90 #[.slice (some ⟨Lb,0,none⟩) 2 2] w fun e w'=>Gives w (RightP bx xn xd∧RightP cy yn yd) (sg bx (val xn)*sg cy (val yn)) (val xd*val yd) e w':=by
 have hbR:=box3_new w (.bool false) (.slice none 0 0) (.slice none 0 0) 24;have b0:=below_alloc w (.cells #[.bool false,.slice none 0 0,.slice none 0 0] 24);have s0:w.heap.size<(w.alloc (.cells #[.bool false,.slice none 0 0,.slice none 0 0] 24)).heap.size:=by simp
 go_enter Tryz.func90,Tryz.ntmps90
 go_wp2_with fail
 generalize hA:w.alloc (.cells #[.bool false,.slice none 0 0,.slice none 0 0] 24)=wR at *;clear hA;refine (ofInt_one _).mono ?_;rintro e wa ⟨ba,x1,y1,x2,y2,rfl,_,_⟩;have sa:=ba.size;have bwa:Below w.heap.size w wa:=b0.trans (ba.mono (by omega));have hf:=fold2T (B:=B) (sg bx (val xn)*sg cy (val yn)) (val xd*val yd) (.bool false) x1 x2 1 y1 1 y2 false (fun w' B' x1 x2 y1 y2 e1 e2 e3 e4 e5 e6 e7=>times_rat e1 e2 e3 e4 e5 e6 e7) (hT.below bwa) (h1.below (bwa.mono hB)) (h2.below (bwa.mono hB)) (h3.below (bwa.mono hB)) (h4.below (bwa.mono hB)) (by omega)
 go_wp2_with fail
 refine hf.mono ?_;rintro e wb ⟨bb,b5,x5,n5,y5,x6,n6,y6,err,rfl,hout⟩;have bR:Below wR.heap.size wR wb:=ba.trans (bb.mono sa);have hR2:=hbR.below bR s0;have q0:=hR2.c0;have q1:=hR2.c1;have q2:=hR2.c2;have p0:=hR2.f0;have p1:=hR2.f1;have p2:=hR2.f2;clear hf;go_wp2
 have hR3:=hR2.set (.bool b5) (.slice x5 n5 y5) (.slice x6 n6 y6);have r0:=hR3.c0;have r1:=hR3.c1;have r2:=hR3.c2;refine bodyPost_ret (v:=.tuple #[.agg #[.bool b5,.slice x5 n5 y5,.slice x6 n6 y6],.int .i64 err]) (by simp [results,Tryz.results90,go_sem,r0,r1,r2]) rfl ?_;exact gives_done b0 (Nat.le_refl _) s0 bR sa hout
theorem add2 (hT:Two w Lb (.bool bx) (.slice a1 xn.length c1) (.slice a2 xd.length c2) (.bool cy) (.slice a3 yn.length c3) (.slice a4 yd.length c4)) (h1:Rd B w (.slice a1 xn.length c1) xn) (h2:Rd B w (.slice a2 xd.length c2) xd) (h3:Rd B w (.slice a3 yn.length c3) yn) (h4:Rd B w (.slice a4 yd.length c4) yd) (hB:B≤w.heap.size) :
    Calls Tryz.prog 87 #[.slice (some ⟨Lb,0,none⟩) 2 2] w fun e w'=>Gives w (RightP bx xn xd∧RightP cy yn yd) (sg bx (val xn)*val yd+sg cy (val yn)*val xd) (val xd*val yd) e w':=by
 have hbR:=box3_new w (.bool false) (.slice none 0 0) (.slice none 0 0) 24;have b0:=below_alloc w (.cells #[.bool false,.slice none 0 0,.slice none 0 0] 24);have s0:w.heap.size<(w.alloc (.cells #[.bool false,.slice none 0 0,.slice none 0 0] 24)).heap.size:=by simp
 go_enter Tryz.func87,Tryz.ntmps87
 go_wp2_with fail
 generalize hA:w.alloc (.cells #[.bool false,.slice none 0 0,.slice none 0 0] 24)=wR at *;clear hA;refine (ofInt_zero _).mono ?_;rintro e wa ⟨ba,x1,n1,y1,x2,n2,y2,rfl⟩;have sa:=ba.size;have bwa:Below w.heap.size w wa:=b0.trans (ba.mono (by omega));have hf:=fold2P (B:=B) (sg bx (val xn)*val yd+sg cy (val yn)*val xd) (val xd*val yd) (.bool false) x1 x2 n1 y1 n2 y2 false (fun w' B' x1 x2 y1 y2 e1 e2 e3 e4 e5 e6 e7=>plus_rat e1 e2 e3 e4 e5 e6 e7) (hT.below bwa) (h1.below (bwa.mono hB)) (h2.below (bwa.mono hB)) (h3.below (bwa.mono hB)) (h4.below (bwa.mono hB)) (by omega)
 go_wp2_with fail
 refine hf.mono ?_;rintro e wb ⟨bb,b5,x5,n5,y5,x6,n6,y6,err,rfl,hout⟩;have bR:Below wR.heap.size wR wb:=ba.trans (bb.mono sa);have hR2:=hbR.below bR s0;have q0:=hR2.c0;have q1:=hR2.c1;have q2:=hR2.c2;have p0:=hR2.f0;have p1:=hR2.f1;have p2:=hR2.f2;clear hf;go_wp2
 have hR3:=hR2.set (.bool b5) (.slice x5 n5 y5) (.slice x6 n6 y6);have r0:=hR3.c0;have r1:=hR3.c1;have r2:=hR3.c2;refine bodyPost_ret (v:=.tuple #[.agg #[.bool b5,.slice x5 n5 y5,.slice x6 n6 y6],.int .i64 err]) (by simp [results,Tryz.results87,go_sem,r0,r1,r2]) rfl ?_;exact gives_done b0 (Nat.le_refl _) s0 bR sa hout
end
theorem by_rat {B:Nat} {w:World} {bx cy:Bool} {a1 a2 a3 a4:Option Addr} {c1 c2 c3 c4:Nat} {xn xd yn yd:List Int} (h1:Rd B w (.slice a1 xn.length c1) xn) (h2:Rd B w (.slice a2 xd.length c2) xd) (h3:Rd B w (.slice a3 yn.length c3) yn) (h4:Rd B w (.slice a4 yd.length c4) yd) (hB:B≤w.heap.size) (hx:RightP bx xn xd) (hy:RightP cy yn yd) (hy0:0<yn.length) :
    Calls Tryz.prog 148 #[.agg #[.bool bx,.slice a1 xn.length c1,.slice a2 xd.length c2],.agg #[.bool cy,.slice a3 yn.length c3,.slice a4 yd.length c4]] w fun e w'=>RMakes w (sg bx (val xn)*sg cy (val yd)) (val xd*val yn) e w':=by
 have px:=right_pos hx;have py:=right_pos hy;have l1:=hx.1;have l2:=hx.2.1;have l3:=hy.1;have l4:=hy.2.1;have pn:0<val yn:=by
  have h5:=can_low hy.2.2.1 hy0;have h6:=pw_pos (yn.length - 1);omega
 have HD:Hid (0<val xd*val yn):=Int.mul_pos px.1 pn;clear pn;clear px py hx hy;have hbX:Box3 (((w.alloc (.cells #[.bool bx,.slice a1 xn.length c1,.slice a2 xd.length c2] 24)).alloc (.cells #[.bool cy,.slice a3 yn.length c3,.slice a4 yd.length c4] 24)).alloc (.cells #[.bool false,.slice none 0 0,.slice none 0 0] 24)) w.heap.size 24 (.bool bx) (.slice a1 xn.length c1) (.slice a2 xd.length c2):=((box3_new w _ _ _ _).below (below_alloc _ _) (by simp)).below (below_alloc _ _) (by simp;omega);have hbY:Box3 (((w.alloc (.cells #[.bool bx,.slice a1 xn.length c1,.slice a2 xd.length c2] 24)).alloc (.cells #[.bool cy,.slice a3 yn.length c3,.slice a4 yd.length c4] 24)).alloc (.cells #[.bool false,.slice none 0 0,.slice none 0 0] 24)) (w.heap.size+1) 24 (.bool cy) (.slice a3 yn.length c3) (.slice a4 yd.length c4):=by
  have h5:=(box3_new (w.alloc (.cells #[.bool bx,.slice a1 xn.length c1,.slice a2 xd.length c2] 24)) (.bool cy) (.slice a3 yn.length c3) (.slice a4 yd.length c4) 24).below (below_alloc _ (.cells #[.bool false,.slice none 0 0,.slice none 0 0] 24)) (by simp);simpa using h5
 have hbR:Box3 (((w.alloc (.cells #[.bool bx,.slice a1 xn.length c1,.slice a2 xd.length c2] 24)).alloc (.cells #[.bool cy,.slice a3 yn.length c3,.slice a4 yd.length c4] 24)).alloc (.cells #[.bool false,.slice none 0 0,.slice none 0 0] 24)) (w.heap.size+1+1) 24 (.bool false) (.slice none 0 0) (.slice none 0 0):=by
  have h5:=box3_new ((w.alloc (.cells #[.bool bx,.slice a1 xn.length c1,.slice a2 xd.length c2] 24)).alloc (.cells #[.bool cy,.slice a3 yn.length c3,.slice a4 yd.length c4] 24)) (.bool false) (.slice none 0 0) (.slice none 0 0) 24;simpa using h5
 have b0:Below w.heap.size w (((w.alloc (.cells #[.bool bx,.slice a1 xn.length c1,.slice a2 xd.length c2] 24)).alloc (.cells #[.bool cy,.slice a3 yn.length c3,.slice a4 yd.length c4] 24)).alloc (.cells #[.bool false,.slice none 0 0,.slice none 0 0] 24)):=((below_alloc w _).alloc (by simp) _).alloc (by simp;omega) _;have s0:w.heap.size+1+1<(((w.alloc (.cells #[.bool bx,.slice a1 xn.length c1,.slice a2 xd.length c2] 24)).alloc (.cells #[.bool cy,.slice a3 yn.length c3,.slice a4 yd.length c4] 24)).alloc (.cells #[.bool false,.slice none 0 0,.slice none 0 0] 24)).heap.size:=by simp
 have g1:=h1.below (b0.mono hB);have g2:=h2.below (b0.mono hB);have g3:=h3.below (b0.mono hB);have g4:=h4.below (b0.mono hB);clear h1 h2 h3 h4;go_enter Tryz.func148,Tryz.ntmps148;go_wp2
 generalize hA:(((w.alloc (.cells #[.bool bx,.slice a1 xn.length c1,.slice a2 xd.length c2] 24)).alloc (.cells #[.bool cy,.slice a3 yn.length c3,.slice a4 yd.length c4] 24)).alloc (.cells #[.bool false,.slice none 0 0,.slice none 0 0] 24))=wP at *;clear hA;have hcells:∀ {w':World},Below wP.heap.size wP w'→w'.cell? ⟨w.heap.size,0,none⟩=some (.bool bx)∧w'.cell? ⟨w.heap.size,1,none⟩=some (.slice a1 xn.length c1)∧w'.cell? ⟨w.heap.size,2,none⟩=some (.slice a2 xd.length c2)∧w'.cell? ⟨w.heap.size+1,0,none⟩=some (.bool cy)∧w'.cell? ⟨w.heap.size+1,1,none⟩=some (.slice a3 yn.length c3)∧w'.cell? ⟨w.heap.size+1,2,none⟩=some (.slice a4 yd.length c4):=fun hb=>⟨(hbX.below hb (by omega)).c0,(hbX.below hb (by omega)).c1,(hbX.below hb (by omega)).c2,(hbY.below hb (by omega)).c0,(hbY.below hb (by omega)).c1,(hbY.below hb (by omega)).c2⟩;obtain ⟨k0,k1,k2,k3,k4,k5⟩:=hcells (Below.refl _ _);have d1:Rd B wP.drew (.slice a1 xn.length c1) xn:=g1;have d2:Rd B wP.drew (.slice a2 xd.length c2) xd:=g2;have d3:Rd B wP.drew (.slice a3 yn.length c3) yn:=g3;have d4:Rd B wP.drew (.slice a4 yd.length c4) yd:=g4;have hBP:B≤wP.drew.heap.size:=show B≤wP.heap.size by omega
 have hmA1:=many2 d1 d4 hBP hBP;have hmD2:=many2 d2 d3 hBP hBP;have hmB1:=hmA1.grow (below_alloc _ (.cells #[.slice a2 xd.length c2,.slice a3 yn.length c3] 22));have hmB2:Many ((wP.drew.alloc (.cells #[.slice a1 xn.length c1,.slice a4 yd.length c4] 22)).alloc (.cells #[.slice a2 xd.length c2,.slice a3 yn.length c3] 22)) (wP.heap.size+1) 2 [.slice a2 xd.length c2,.slice a3 yn.length c3] [xd,yn]:=by
  have h:=many2 (d2.below ((below_alloc wP.drew (.cells #[.slice a1 xn.length c1,.slice a4 yd.length c4] 22)).mono hBP)) (d3.below ((below_alloc wP.drew (.cells #[.slice a1 xn.length c1,.slice a4 yd.length c4] 22)).mono hBP)) (B1:=B) (B2:=B) (by simp;exact Nat.le_succ_of_le hBP) (by simp;exact Nat.le_succ_of_le hBP);simp only [World.size_alloc,World.size_drew] at h;exact h
 have hmC1:Many ((wP.drew.alloc (.cells #[.slice a2 xd.length c2,.slice a3 yn.length c3] 22)).alloc (.cells #[.slice a1 xn.length c1,.slice a4 yd.length c4] 22)) (wP.heap.size+1) 2 [.slice a1 xn.length c1,.slice a4 yd.length c4] [xn,yd]:=by
  have h:=many2 (d1.below ((below_alloc wP.drew (.cells #[.slice a2 xd.length c2,.slice a3 yn.length c3] 22)).mono hBP)) (d4.below ((below_alloc wP.drew (.cells #[.slice a2 xd.length c2,.slice a3 yn.length c3] 22)).mono hBP)) (B1:=B) (B2:=B) (by simp;exact Nat.le_succ_of_le hBP) (by simp;exact Nat.le_succ_of_le hBP);simp only [World.size_alloc,World.size_drew] at h;exact h
 have hmC2:=hmD2.grow (below_alloc _ (.cells #[.slice a1 xn.length c1,.slice a4 yd.length c4] 22))
 go_region_held3 (fun w'=>w'.cell? ⟨w.heap.size,0,none⟩=some (.bool bx)∧w'.cell? ⟨w.heap.size,1,none⟩=some (.slice a1 xn.length c1)∧w'.cell? ⟨w.heap.size,2,none⟩=some (.slice a2 xd.length c2)∧w'.cell? ⟨w.heap.size+1,0,none⟩=some (.bool cy)∧w'.cell? ⟨w.heap.size+1,1,none⟩=some (.slice a3 yn.length c3)∧w'.cell? ⟨w.heap.size+1,2,none⟩=some (.slice a4 yd.length c4))
  (first | (go_keep;done) | exact tw | exact tw2 | exact tw3 | exact hcells (Below.alloc ba sa _) | exact ⟨(hX2.other (by omega) _ _ _).c0,(hX2.other (by omega) _ _ _).c1,(hX2.other (by omega) _ _ _).c2,(hY2.other (by omega) _ _ _).c0,(hY2.other (by omega) _ _ _).c1,(hY2.other (by omega) _ _ _).c2⟩)
  (first
   | (go_at_call 120;refine (prod_at (v1:=.slice a1 xn.length c1) (v2:=.slice a4 yd.length c4) (x1:=xn) (x2:=yd) (by first | exact hmA1 | exact hmB1 | exact hmC1) (by omega) (by omega)).mono ?_;rintro e wa ⟨za,ca,va,la,hma⟩;first | (obtain ⟨aa,qa,rfl,oa,ba⟩:=Makes.undrew (Makes.alloc (w:=wP.drew) (o:=(.cells #[.slice a1 xn.length c1,.slice a4 yd.length c4] 22)) hma);have sa:=ba.size;have tw:=hcells ba;have hm2:=many2 (g2.below (ba.mono (by omega))) (g3.below (ba.mono (by omega))) (B1:=B) (B2:=B) (by omega) (by omega)) | (obtain ⟨aa,qa,rfl,oa',ba'⟩:=hma;have hm2:=hmB2.grow ba';obtain ⟨aa2,qa2,he2,oa,ba⟩:=Makes.undrew (Makes.alloc (w:=wP.drew) (Makes.alloc (w:=wP.drew.alloc (.cells #[.slice a1 xn.length c1,.slice a4 yd.length c4] 22)) (⟨aa,qa,rfl,oa',ba'⟩:Makes _ _ wa za)));cases he2;have sa:=ba.size;have tw:=hcells ba) | (obtain ⟨aa,qa,rfl,oa',ba'⟩:=hma;have hm2:=hmC2.grow ba';obtain ⟨aa2,qa2,he2,oa,ba⟩:=Makes.undrew (Makes.alloc (w:=wP.drew) (Makes.alloc (w:=wP.drew.alloc (.cells #[.slice a2 xd.length c2,.slice a3 yn.length c3] 22)) (⟨aa,qa,rfl,oa',ba'⟩:Makes _ _ wa za)));cases he2;have sa:=ba.size;have tw:=hcells ba))
   | (go_at_call 120;refine (prod_at (v1:=.slice a2 xd.length c2) (v2:=.slice a3 yn.length c3) (x1:=xd) (x2:=yn) (by exact hm2) (by omega) (by omega)).mono ?_;rintro e wb ⟨zb,cb,vb,lb,hmb⟩;first | (obtain ⟨ab,qb,rfl,ob,bb⟩:=Makes.alloc (w:=wa) (o:=(.cells #[.slice a2 xd.length c2,.slice a3 yn.length c3] 22)) hmb;have sb:=bb.size;have tw2:=hcells (ba.trans (bb.mono sa))) | (obtain ⟨ab,qb,rfl,ob,bb⟩:=hmb;have sb:=bb.size;have tw2:=hcells (ba.trans (bb.mono sa))))
   | (go_at_call 175;refine (make_any (bx != cy) (sg bx (val xn)*sg cy (val yd)) (oa.below bb (Nat.le_refl _)).rd (Nat.le_refl _) ob.rd (Nat.le_refl _) (by omega) (by omega) (by rw [vb];exact HD.out) (by rw [va,sg_neq])).mono ?_;intro e w2 hmk;rw [vb] at hmk;obtain ⟨bm,b5,x5,n5,y5,x6,n6,y6,err,rfl,hform⟩:=hmk.form;have bPm:Below wP.heap.size wP w2:=(ba.trans (bb.mono sa)).trans (bm.mono (by omega));have tw3:=hcells bPm;have hX2:=hbX.below bPm (by omega);have hY2:=hbY.below bPm (by omega);have hR2:=hbR.below bPm s0;have q0:=hR2.c0;have q1:=hR2.c1;have q2:=hR2.c2;have p0:=hR2.f0;have p1:=hR2.f1;have p2:=hR2.f2))
 all_goals
  go_wp2
  have hR3:=hR2.set (.bool b5) (.slice x5 n5 y5) (.slice x6 n6 y6);have r0:=hR3.c0;have r1:=hR3.c1;have r2:=hR3.c2;refine bodyPost_ret (v:=.tuple #[.agg #[.bool b5,.slice x5 n5 y5,.slice x6 n6 y6],.int .i64 err]) (by simp [results,Tryz.results148,go_sem,r0,r1,r2]) rfl ?_;exact rform_done b0 (by omega) s0 bPm (hform_mono (by omega) hform)
theorem difference_rat {B:Nat} {w:World} {bx cy:Bool} {a1 a2 a3 a4:Option Addr} {c1 c2 c3 c4:Nat} {xn xd yn yd:List Int} (h1:Rd B w (.slice a1 xn.length c1) xn) (h2:Rd B w (.slice a2 xd.length c2) xd) (h3:Rd B w (.slice a3 yn.length c3) yn) (h4:Rd B w (.slice a4 yd.length c4) yd) (hB:B≤w.heap.size) (hx:RightP bx xn xd) (hy:RightP cy yn yd) :
    Calls Tryz.prog 172 #[.agg #[.bool bx,.slice a1 xn.length c1,.slice a2 xd.length c2],.agg #[.bool cy,.slice a3 yn.length c3,.slice a4 yd.length c4]] w fun e w'=>Sums w (sg bx (val xn)*val yd+sg (!cy) (val yn)*val xd) 132 e w':=by
 have px:=right_pos hx;have py:=right_pos hy;have l1:=hx.1;have l2:=hx.2.1;have l3:=hy.1;have l4:=hy.2.1;clear px py hx hy;have hbX:Box3 ((w.alloc (.cells #[.bool bx,.slice a1 xn.length c1,.slice a2 xd.length c2] 24)).alloc (.cells #[.bool cy,.slice a3 yn.length c3,.slice a4 yd.length c4] 24)) w.heap.size 24 (.bool bx) (.slice a1 xn.length c1) (.slice a2 xd.length c2):=(box3_new w _ _ _ _).below (below_alloc _ _) (by simp);have hbY:Box3 ((w.alloc (.cells #[.bool bx,.slice a1 xn.length c1,.slice a2 xd.length c2] 24)).alloc (.cells #[.bool cy,.slice a3 yn.length c3,.slice a4 yd.length c4] 24)) (w.heap.size+1) 24 (.bool cy) (.slice a3 yn.length c3) (.slice a4 yd.length c4):=by
  have h5:=box3_new (w.alloc (.cells #[.bool bx,.slice a1 xn.length c1,.slice a2 xd.length c2] 24)) (.bool cy) (.slice a3 yn.length c3) (.slice a4 yd.length c4) 24;simpa using h5
 have b0:Below w.heap.size w ((w.alloc (.cells #[.bool bx,.slice a1 xn.length c1,.slice a2 xd.length c2] 24)).alloc (.cells #[.bool cy,.slice a3 yn.length c3,.slice a4 yd.length c4] 24)):=(below_alloc w _).alloc (by simp) _;have s0:w.heap.size+1<((w.alloc (.cells #[.bool bx,.slice a1 xn.length c1,.slice a2 xd.length c2] 24)).alloc (.cells #[.bool cy,.slice a3 yn.length c3,.slice a4 yd.length c4] 24)).heap.size:=by simp
 have g1:=h1.below (b0.mono hB);have g2:=h2.below (b0.mono hB);have g3:=h3.below (b0.mono hB);have g4:=h4.below (b0.mono hB);clear h1 h2 h3 h4;go_enter Tryz.func172,Tryz.ntmps172;go_wp2
 generalize hA:((w.alloc (.cells #[.bool bx,.slice a1 xn.length c1,.slice a2 xd.length c2] 24)).alloc (.cells #[.bool cy,.slice a3 yn.length c3,.slice a4 yd.length c4] 24))=wP at *;clear hA;have hcells:∀ {w':World},Below wP.heap.size wP w'→w'.cell? ⟨w.heap.size,0,none⟩=some (.bool bx)∧w'.cell? ⟨w.heap.size,1,none⟩=some (.slice a1 xn.length c1)∧w'.cell? ⟨w.heap.size,2,none⟩=some (.slice a2 xd.length c2)∧w'.cell? ⟨w.heap.size+1,0,none⟩=some (.bool cy)∧w'.cell? ⟨w.heap.size+1,1,none⟩=some (.slice a3 yn.length c3)∧w'.cell? ⟨w.heap.size+1,2,none⟩=some (.slice a4 yd.length c4):=fun hb=>⟨(hbX.below hb (by omega)).c0,(hbX.below hb (by omega)).c1,(hbX.below hb (by omega)).c2,(hbY.below hb (by omega)).c0,(hbY.below hb (by omega)).c1,(hbY.below hb (by omega)).c2⟩;obtain ⟨k0,k1,k2,k3,k4,k5⟩:=hcells (Below.refl _ _);have d1:Rd B wP.drew (.slice a1 xn.length c1) xn:=g1;have d2:Rd B wP.drew (.slice a2 xd.length c2) xd:=g2;have d3:Rd B wP.drew (.slice a3 yn.length c3) yn:=g3;have d4:Rd B wP.drew (.slice a4 yd.length c4) yd:=g4;have hBP:B≤wP.drew.heap.size:=show B≤wP.heap.size by omega
 have hmA1:=many2 d1 d4 hBP hBP;have hmD2:=many2 d3 d2 hBP hBP;have hmB1:=hmA1.grow (below_alloc _ (.cells #[.slice a3 yn.length c3,.slice a2 xd.length c2] 22));have hmB2:Many ((wP.drew.alloc (.cells #[.slice a1 xn.length c1,.slice a4 yd.length c4] 22)).alloc (.cells #[.slice a3 yn.length c3,.slice a2 xd.length c2] 22)) (wP.heap.size+1) 2 [.slice a3 yn.length c3,.slice a2 xd.length c2] [yn,xd]:=by
  have h:=many2 (d3.below ((below_alloc wP.drew (.cells #[.slice a1 xn.length c1,.slice a4 yd.length c4] 22)).mono hBP)) (d2.below ((below_alloc wP.drew (.cells #[.slice a1 xn.length c1,.slice a4 yd.length c4] 22)).mono hBP)) (B1:=B) (B2:=B) (by simp;exact Nat.le_succ_of_le hBP) (by simp;exact Nat.le_succ_of_le hBP);simp only [World.size_alloc,World.size_drew] at h;exact h
 have hmC1:Many ((wP.drew.alloc (.cells #[.slice a3 yn.length c3,.slice a2 xd.length c2] 22)).alloc (.cells #[.slice a1 xn.length c1,.slice a4 yd.length c4] 22)) (wP.heap.size+1) 2 [.slice a1 xn.length c1,.slice a4 yd.length c4] [xn,yd]:=by
  have h:=many2 (d1.below ((below_alloc wP.drew (.cells #[.slice a3 yn.length c3,.slice a2 xd.length c2] 22)).mono hBP)) (d4.below ((below_alloc wP.drew (.cells #[.slice a3 yn.length c3,.slice a2 xd.length c2] 22)).mono hBP)) (B1:=B) (B2:=B) (by simp;exact Nat.le_succ_of_le hBP) (by simp;exact Nat.le_succ_of_le hBP);simp only [World.size_alloc,World.size_drew] at h;exact h
 have hmC2:=hmD2.grow (below_alloc _ (.cells #[.slice a1 xn.length c1,.slice a4 yd.length c4] 22))
 go_region_held3 (fun w'=>w'.cell? ⟨w.heap.size,0,none⟩=some (.bool bx)∧w'.cell? ⟨w.heap.size,1,none⟩=some (.slice a1 xn.length c1)∧w'.cell? ⟨w.heap.size,2,none⟩=some (.slice a2 xd.length c2)∧w'.cell? ⟨w.heap.size+1,0,none⟩=some (.bool cy)∧w'.cell? ⟨w.heap.size+1,1,none⟩=some (.slice a3 yn.length c3)∧w'.cell? ⟨w.heap.size+1,2,none⟩=some (.slice a4 yd.length c4))
  (first | (go_keep;done) | exact tw | exact tw2 | exact tw3 | exact hcells (Below.alloc ba sa _))
  (first
   | (go_at_call 120;refine (prod_at (v1:=.slice a1 xn.length c1) (v2:=.slice a4 yd.length c4) (x1:=xn) (x2:=yd) (by first | exact hmA1 | exact hmB1 | exact hmC1) (by omega) (by omega)).mono ?_;rintro e wa ⟨za,ca,va,la,hma⟩;first | (obtain ⟨aa,qa,rfl,oa,ba⟩:=Makes.undrew (Makes.alloc (w:=wP.drew) (o:=(.cells #[.slice a1 xn.length c1,.slice a4 yd.length c4] 22)) hma);have sa:=ba.size;have tw:=hcells ba;have hm2:=many2 (g3.below (ba.mono (by omega))) (g2.below (ba.mono (by omega))) (B1:=B) (B2:=B) (by omega) (by omega)) | (obtain ⟨aa,qa,rfl,oa',ba'⟩:=hma;have hm2:=hmB2.grow ba';obtain ⟨aa2,qa2,he2,oa,ba⟩:=Makes.undrew (Makes.alloc (w:=wP.drew) (Makes.alloc (w:=wP.drew.alloc (.cells #[.slice a1 xn.length c1,.slice a4 yd.length c4] 22)) (⟨aa,qa,rfl,oa',ba'⟩:Makes _ _ wa za)));cases he2;have sa:=ba.size;have tw:=hcells ba) | (obtain ⟨aa,qa,rfl,oa',ba'⟩:=hma;have hm2:=hmC2.grow ba';obtain ⟨aa2,qa2,he2,oa,ba⟩:=Makes.undrew (Makes.alloc (w:=wP.drew) (Makes.alloc (w:=wP.drew.alloc (.cells #[.slice a3 yn.length c3,.slice a2 xd.length c2] 22)) (⟨aa,qa,rfl,oa',ba'⟩:Makes _ _ wa za)));cases he2;have sa:=ba.size;have tw:=hcells ba))
   | (go_at_call 120;refine (prod_at (v1:=.slice a3 yn.length c3) (v2:=.slice a2 xd.length c2) (x1:=yn) (x2:=xd) (by exact hm2) (by omega) (by omega)).mono ?_;rintro e wb ⟨zb,cb,vb,lb,hmb⟩;first | (obtain ⟨ab,qb,rfl,ob,bb⟩:=Makes.alloc (w:=wa) (o:=(.cells #[.slice a3 yn.length c3,.slice a2 xd.length c2] 22)) hmb;have sb:=bb.size;have tw2:=hcells (ba.trans (bb.mono sa))) | (obtain ⟨ab,qb,rfl,ob,bb⟩:=hmb;have sb:=bb.size;have tw2:=hcells (ba.trans (bb.mono sa))))
   | (go_at_call 174;refine (sum_rat (bx:=bx) (cy:=!cy) 65 (sg bx (val xn)*val yd+sg (!cy) (val yn)*val xd) (oa.below bb (Nat.le_refl _)).rd (Nat.le_refl _) ob.rd (Nat.le_refl _) (by omega) (by omega) (by omega) (by rw [va,vb,sg_mul,sg_mul])).mono ?_;rintro e w2 ⟨bm,b5,z5,x5,y5,rfl,o5,cz5,v5,l5⟩;have bPm:Below wP.heap.size wP w2:=(ba.trans (bb.mono sa)).trans (bm.mono (by omega));have tw3:=hcells bPm;have HV5:Hid (sg b5 (val z5)=sg bx (val xn)*val yd+sg (!cy) (val yn)*val xd):=v5;clear v5))
 all_goals
  go_wp2
  go_ret2
  exact ⟨b0.trans (bPm.mono (by omega)),b5,z5,x5,y5,rfl,o5.mono (by omega),cz5,HV5.out,by omega⟩
theorem sg_not (b:Bool) (x:Int):sg (!b) x = - sg b x:=by unfold sg;cases b <;> simp
section
variable {B:Nat} {w:World} {bx cy:Bool} {a1 a2 a3 a4:Option Addr} {c1 c2 c3 c4:Nat} {xn xd yn yd:List Int}
/-- What rat.Compare answers. -/
def Compares (P:Prop) (a b:Int) (e:Ending):Prop:=∃ r:Int,e=.returned (.int .i64 r)∧(¬ P→r=0)∧(P→r=cmpI a b)
theorem compare_rat (h1:Rd B w (.slice a1 xn.length c1) xn) (h2:Rd B w (.slice a2 xd.length c2) xd) (h3:Rd B w (.slice a3 yn.length c3) yn) (h4:Rd B w (.slice a4 yd.length c4) yd) (hB:B≤w.heap.size) :
    Calls Tryz.prog 144 #[.agg #[.bool bx,.slice a1 xn.length c1,.slice a2 xd.length c2],.agg #[.bool cy,.slice a3 yn.length c3,.slice a4 yd.length c4]] w fun e w'=>Below w.heap.size w w'∧Compares (RightP bx xn xd∧RightP cy yn yd) (sg bx (val xn)*val yd) (sg cy (val yn)*val xd) e:=by
 have hbX:Box3 (((w.alloc (.cells #[.bool bx,.slice a1 xn.length c1,.slice a2 xd.length c2] 24)).alloc (.cells #[.bool cy,.slice a3 yn.length c3,.slice a4 yd.length c4] 24)).alloc (.cells #[.bool bx,.slice a1 xn.length c1,.slice a2 xd.length c2,.bool cy,.slice a3 yn.length c3,.slice a4 yd.length c4] 24)) w.heap.size 24 (.bool bx) (.slice a1 xn.length c1) (.slice a2 xd.length c2):=((box3_new w _ _ _ _).below (below_alloc _ _) (by simp)).below (below_alloc _ _) (by simp;omega);have hbY:Box3 (((w.alloc (.cells #[.bool bx,.slice a1 xn.length c1,.slice a2 xd.length c2] 24)).alloc (.cells #[.bool cy,.slice a3 yn.length c3,.slice a4 yd.length c4] 24)).alloc (.cells #[.bool bx,.slice a1 xn.length c1,.slice a2 xd.length c2,.bool cy,.slice a3 yn.length c3,.slice a4 yd.length c4] 24)) (w.heap.size+1) 24 (.bool cy) (.slice a3 yn.length c3) (.slice a4 yd.length c4):=by
  have h5:=(box3_new (w.alloc (.cells #[.bool bx,.slice a1 xn.length c1,.slice a2 xd.length c2] 24)) (.bool cy) (.slice a3 yn.length c3) (.slice a4 yd.length c4) 24).below (below_alloc _ (.cells #[.bool bx,.slice a1 xn.length c1,.slice a2 xd.length c2,.bool cy,.slice a3 yn.length c3,.slice a4 yd.length c4] 24)) (by simp);simpa using h5
 have hT:Two (((w.alloc (.cells #[.bool bx,.slice a1 xn.length c1,.slice a2 xd.length c2] 24)).alloc (.cells #[.bool cy,.slice a3 yn.length c3,.slice a4 yd.length c4] 24)).alloc (.cells #[.bool bx,.slice a1 xn.length c1,.slice a2 xd.length c2,.bool cy,.slice a3 yn.length c3,.slice a4 yd.length c4] 24)) (w.heap.size+1+1) (.bool bx) (.slice a1 xn.length c1) (.slice a2 xd.length c2) (.bool cy) (.slice a3 yn.length c3) (.slice a4 yd.length c4):=by
  have h5:=two_new ((w.alloc (.cells #[.bool bx,.slice a1 xn.length c1,.slice a2 xd.length c2] 24)).alloc (.cells #[.bool cy,.slice a3 yn.length c3,.slice a4 yd.length c4] 24)) (.bool bx) (.slice a1 xn.length c1) (.slice a2 xd.length c2) (.bool cy) (.slice a3 yn.length c3) (.slice a4 yd.length c4) 24;simp only [World.size_alloc] at h5;exact h5
 have b0:Below w.heap.size w (((w.alloc (.cells #[.bool bx,.slice a1 xn.length c1,.slice a2 xd.length c2] 24)).alloc (.cells #[.bool cy,.slice a3 yn.length c3,.slice a4 yd.length c4] 24)).alloc (.cells #[.bool bx,.slice a1 xn.length c1,.slice a2 xd.length c2,.bool cy,.slice a3 yn.length c3,.slice a4 yd.length c4] 24)):=((below_alloc w _).alloc (by simp) _).alloc (by simp;omega) _;have s0:w.heap.size+1+1<(((w.alloc (.cells #[.bool bx,.slice a1 xn.length c1,.slice a2 xd.length c2] 24)).alloc (.cells #[.bool cy,.slice a3 yn.length c3,.slice a4 yd.length c4] 24)).alloc (.cells #[.bool bx,.slice a1 xn.length c1,.slice a2 xd.length c2,.bool cy,.slice a3 yn.length c3,.slice a4 yd.length c4] 24)).heap.size:=by simp
 have g1:=h1.below (b0.mono hB);have g2:=h2.below (b0.mono hB);have g3:=h3.below (b0.mono hB);have g4:=h4.below (b0.mono hB);clear h1 h2 h3 h4;go_enter Tryz.func144,Tryz.ntmps144
 go_wp2_with fail
 generalize hA:(((w.alloc (.cells #[.bool bx,.slice a1 xn.length c1,.slice a2 xd.length c2] 24)).alloc (.cells #[.bool cy,.slice a3 yn.length c3,.slice a4 yd.length c4] 24)).alloc (.cells #[.bool bx,.slice a1 xn.length c1,.slice a2 xd.length c2,.bool cy,.slice a3 yn.length c3,.slice a4 yd.length c4] 24))=wQ at *;clear hA;refine (allRight2 hT g1 g2 g3 g4 (by omega)).mono ?_;rintro e wa ⟨⟨r,rfl,hr⟩,ba⟩;have sa:=ba.size;have bwa:Below w.heap.size w wa:=b0.trans (ba.mono (by omega))
 cases r with
 | false=>
  have HP:Hid (¬ (RightP bx xn xd∧RightP cy yn yd)):=fun h=>by have:=hr.2 h;cases this
  clear hr;go_wp2
  go_ret
  exact ⟨bwa,0,rfl,fun _=>rfl,fun h=>absurd h HP.out⟩
 | true=>
  have HP:Hid (RightP bx xn xd∧RightP cy yn yd):=hr.1 rfl;clear hr;have hXa:=hbX.below ba (by omega);have hYa:=hbY.below ba (by omega);have k0:=hXa.c0;have k1:=hXa.c1;have k2:=hXa.c2;have k3:=hYa.c0;have k4:=hYa.c1;have k5:=hYa.c2;have hdf:=difference_rat (g1.below (ba.mono (by omega))) (g2.below (ba.mono (by omega))) (g3.below (ba.mono (by omega))) (g4.below (ba.mono (by omega))) (by omega) HP.out.1 HP.out.2
  go_wp2_with fail
  refine hdf.mono ?_;rintro e wb ⟨bb,b5,z5,x5,y5,rfl,o5,cz5,v5,l5⟩;rw [sg_not,Int.neg_mul,← Int.sub_eq_add_neg] at v5;have HV:Hid (sg b5 (val z5)=sg bx (val xn)*val yd - sg cy (val yn)*val xd):=v5;have bwb:Below w.heap.size w wb:=bwa.trans (bb.mono (by omega));clear hdf v5;by_cases hz:z5.length=0
  · have HC:Hid (cmpI (sg bx (val xn)*val yd) (sg cy (val yn)*val xd)=0):=by
     unfold Hid;refine cmpI_eq ?_;have h5:=HV.out;rw [(can_zero cz5).1 hz,sg_zero] at h5;omega
    have hzb:((z5.length:Int)==0)=true:=by rw [hz];rfl
    clear hz;go_wp2
    go_ret
    exact ⟨bwb,0,rfl,fun h=>absurd HP.out h,fun _=>HC.out.symm⟩
  · have hpos:=can_low cz5 (by omega)
    have hpw:=pw_pos (z5.length - 1);have hzb:((z5.length:Int)==0)=false:=by rw [beq_eq_false_iff_ne];omega
    cases b5 with
    | true=>
     have HC:Hid (cmpI (sg bx (val xn)*val yd) (sg cy (val yn)*val xd) = -1):=by
      unfold Hid;refine cmpI_lt ?_;have h5:=HV.out;unfold sg at h5 ⊢;simp only [if_true] at h5;omega
     clear hz hpos hpw;go_wp2
     go_ret
     exact ⟨bwb,-1,rfl,fun h=>absurd HP.out h,fun _=>HC.out.symm⟩
    | false=>
     have HC:Hid (cmpI (sg bx (val xn)*val yd) (sg cy (val yn)*val xd)=1):=by
      unfold Hid;refine cmpI_gt ?_;have h5:=HV.out;rw [sg_false] at h5;omega
     clear hz hpos hpw;go_wp2
     go_ret
     exact ⟨bwb,1,rfl,fun h=>absurd HP.out h,fun _=>HC.out.symm⟩
end
theorem cancel {a b k:Int} (hk:0<k) (h:a*k=b*k):a=b:=Int.eq_of_mul_eq_mul_right (by omega) h
/-- Lowest terms are unique. -/
theorem lowest {b c:Bool} {ns ds ms es:List Int} (h:RightP b ns ds) (k:RightP c ms es) (e:sg b (val ns)*val es=sg c (val ms)*val ds):b=c∧ns=ms∧ds=es:=by
 have hp:=right_pos h;have kp:=right_pos k;have hz:∀ {b:Bool} {ns ds:List Int},RightP b ns ds→val ns=0→b=false:=by
  intro b ns ds h hv;have h1:=(can_zero h.2.2.1).2 hv
  cases b with
  | false=>rfl
  | true=>exact absurd ⟨rfl,h1⟩ h.2.2.2.2.1
 have hab:val ns*val es=val ms*val ds∧b=c:=by
  have n1:0≤val ns*val es:=Int.mul_nonneg hp.2 (by omega);have n2:0≤val ms*val ds:=Int.mul_nonneg kp.2 (by omega);rw [← sg_mul,← sg_mul] at e;have zero:val ns*val es=0→val ms*val ds=0→b=c:=by
   intro z1 z2;have y1:val ns=0:=by
    rcases Int.mul_eq_zero.1 z1 with y | y
    · exact y
    · omega
   have y2:val ms=0:=by
    rcases Int.mul_eq_zero.1 z2 with y | y
    · exact y
    · omega
   rw [hz h y1,hz k y2]
  unfold sg at e;generalize val ns*val es=p at *;generalize val ms*val ds=q at *
  cases b <;> cases c <;> simp at e
  · exact ⟨e,rfl⟩
  · have:p=0∧q=0:=by omega
    exact ⟨by omega,zero this.1 this.2⟩
  · have:p=0∧q=0:=by omega
    exact ⟨by omega,zero this.1 this.2⟩
  · exact ⟨by omega,rfl⟩
 obtain ⟨hm,hbc⟩:=hab;obtain ⟨n,en⟩:=Int.eq_ofNat_of_zero_le hp.2;obtain ⟨d,ed⟩:=Int.eq_ofNat_of_zero_le (Int.le_of_lt hp.1);obtain ⟨m,em⟩:=Int.eq_ofNat_of_zero_le kp.2;obtain ⟨f,ef⟩:=Int.eq_ofNat_of_zero_le (Int.le_of_lt kp.1);have g1:Nat.gcd n d=1:=by
  have:=h.2.2.2.2.2.2;rw [en,ed] at this;unfold gI at this;simp only [Int.toNat_natCast] at this;omega
 have g2:Nat.gcd m f=1:=by
  have:=k.2.2.2.2.2.2;rw [em,ef] at this;unfold gI at this;simp only [Int.toNat_natCast] at this;omega
 rw [en,ed,em,ef] at hm;have hmn:n*f=m*d:=by exact_mod_cast hm
 have d1:d ∣ f:=(Nat.Coprime.dvd_of_dvd_mul_left (show Nat.Coprime d n by rw [Nat.coprime_comm];exact g1) ⟨m,by rw [hmn,Nat.mul_comm]⟩);have d2:f ∣ d:=(Nat.Coprime.dvd_of_dvd_mul_left (show Nat.Coprime f m by rw [Nat.coprime_comm];exact g2) ⟨n,by rw [← hmn,Nat.mul_comm]⟩);have hdf:d=f:=Nat.dvd_antisymm d1 d2;subst hdf;have hd0:0<d:=by omega
 have hnm:n=m:=Nat.eq_of_mul_eq_mul_right hd0 hmn;exact ⟨hbc,can_inj h.2.2.1 k.2.2.1 (by rw [en,em,hnm]),can_inj h.2.2.2.1 k.2.2.2.1 (by rw [ed,ef])⟩
structure NVar (w:World) (k:Nat) (b:Bool) (a1:Option Addr) (ns:List Int) (c1:Nat) (a2:Option Addr) (ds:List Int) (c2:Nat):Prop where
 lt:k<w.heap.size
 box:Box3 w k 24 (.bool b) (.slice a1 ns.length c1) (.slice a2 ds.length c2)
 rn:Rd w.heap.size w (.slice a1 ns.length c1) ns
 rd:Rd w.heap.size w (.slice a2 ds.length c2) ds
section
variable {w w':World} {k:Nat} {b:Bool} {a1 a2:Option Addr} {ns ds:List Int} {c1 c2:Nat}
theorem NVar.below (h:NVar w k b a1 ns c1 a2 ds c2) (hb:Below w.heap.size w w'):NVar w' k b a1 ns c1 a2 ds c2:=
 ⟨Nat.lt_of_lt_of_le h.lt hb.size,h.box.below hb h.lt,(h.rn.below hb).mono hb.size,(h.rd.below hb).mono hb.size⟩
theorem NVar.k0 (h:NVar w k b a1 ns c1 a2 ds c2):w.cell? ⟨k,0,none⟩=some (.bool b):=h.box.c0
theorem NVar.k1 (h:NVar w k b a1 ns c1 a2 ds c2):w.cell? ⟨k,1,none⟩=some (.slice a1 ns.length c1):=h.box.c1
theorem NVar.k2 (h:NVar w k b a1 ns c1 a2 ds c2):w.cell? ⟨k,2,none⟩=some (.slice a2 ds.length c2):=h.box.c2
theorem nvar_new (hn:Rd w.heap.size w (.slice a1 ns.length c1) ns) (hd:Rd w.heap.size w (.slice a2 ds.length c2) ds):NVar (w.alloc (.cells #[.bool b,.slice a1 ns.length c1,.slice a2 ds.length c2] 24)) w.heap.size b a1 ns c1 a2 ds c2:=
 ⟨by simp,box3_new _ _ _ _ _,(hn.below (below_alloc _ _)).mono (by simp),(hd.below (below_alloc _ _)).mono (by simp)⟩
end
section
variable {w:World} {bx cy dz:Bool} {a1 a2 a3 a4 a5 a6:Option Addr} {c1 c2 c3 c4 c5 c6:Nat} {xn xd yn yd zn zd:List Int}
/-- Two numbers come in. -/
theorem nvar_in2 (h1:Rd w.heap.size w (.slice a1 xn.length c1) xn) (h2:Rd w.heap.size w (.slice a2 xd.length c2) xd) (h3:Rd w.heap.size w (.slice a3 yn.length c3) yn) (h4:Rd w.heap.size w (.slice a4 yd.length c4) yd) :
    NVar ((w.alloc (.cells #[.bool bx,.slice a1 xn.length c1,.slice a2 xd.length c2] 24)).alloc (.cells #[.bool cy,.slice a3 yn.length c3,.slice a4 yd.length c4] 24)) w.heap.size bx a1 xn c1 a2 xd c2 ∧
    NVar ((w.alloc (.cells #[.bool bx,.slice a1 xn.length c1,.slice a2 xd.length c2] 24)).alloc (.cells #[.bool cy,.slice a3 yn.length c3,.slice a4 yd.length c4] 24)) (w.heap.size+1) cy a3 yn c3 a4 yd c4 ∧
    Below w.heap.size w ((w.alloc (.cells #[.bool bx,.slice a1 xn.length c1,.slice a2 xd.length c2] 24)).alloc (.cells #[.bool cy,.slice a3 yn.length c3,.slice a4 yd.length c4] 24)):=by
 have b1:=below_alloc w (.cells #[.bool bx,.slice a1 xn.length c1,.slice a2 xd.length c2] 24);have X:=nvar_new (b:=bx) h1 h2;have Y:=nvar_new (b:=cy) ((h3.below b1).mono b1.size) ((h4.below b1).mono b1.size);rw [World.size_alloc] at Y;exact ⟨X.below (below_alloc _ _),Y,b1.alloc (by simp) _⟩
/-- Three numbers come in. -/
theorem nvar_in3 (h1:Rd w.heap.size w (.slice a1 xn.length c1) xn) (h2:Rd w.heap.size w (.slice a2 xd.length c2) xd) (h3:Rd w.heap.size w (.slice a3 yn.length c3) yn) (h4:Rd w.heap.size w (.slice a4 yd.length c4) yd) (h5:Rd w.heap.size w (.slice a5 zn.length c5) zn) (h6:Rd w.heap.size w (.slice a6 zd.length c6) zd) :
    NVar (((w.alloc (.cells #[.bool bx,.slice a1 xn.length c1,.slice a2 xd.length c2] 24)).alloc (.cells #[.bool cy,.slice a3 yn.length c3,.slice a4 yd.length c4] 24)).alloc (.cells #[.bool dz,.slice a5 zn.length c5,.slice a6 zd.length c6] 24)) w.heap.size bx a1 xn c1 a2 xd c2 ∧
    NVar (((w.alloc (.cells #[.bool bx,.slice a1 xn.length c1,.slice a2 xd.length c2] 24)).alloc (.cells #[.bool cy,.slice a3 yn.length c3,.slice a4 yd.length c4] 24)).alloc (.cells #[.bool dz,.slice a5 zn.length c5,.slice a6 zd.length c6] 24)) (w.heap.size+1) cy a3 yn c3 a4 yd c4 ∧
    NVar (((w.alloc (.cells #[.bool bx,.slice a1 xn.length c1,.slice a2 xd.length c2] 24)).alloc (.cells #[.bool cy,.slice a3 yn.length c3,.slice a4 yd.length c4] 24)).alloc (.cells #[.bool dz,.slice a5 zn.length c5,.slice a6 zd.length c6] 24)) (w.heap.size+1+1) dz a5 zn c5 a6 zd c6 ∧
    Below w.heap.size w (((w.alloc (.cells #[.bool bx,.slice a1 xn.length c1,.slice a2 xd.length c2] 24)).alloc (.cells #[.bool cy,.slice a3 yn.length c3,.slice a4 yd.length c4] 24)).alloc (.cells #[.bool dz,.slice a5 zn.length c5,.slice a6 zd.length c6] 24)):=by
 obtain ⟨X,Y,b2⟩:=nvar_in2 (bx:=bx) (cy:=cy) h1 h2 h3 h4;have Z:=nvar_new (b:=dz) ((h5.below b2).mono b2.size) ((h6.below b2).mono b2.size);rw [World.size_alloc,World.size_alloc] at Z;exact ⟨X.below (below_alloc _ _),Y.below (below_alloc _ _),Z,b2.alloc (by simp <;> omega) _⟩
/-- Two numbers are laid into a list. -/
theorem nvar_two {k j:Nat} (X:NVar w k bx a1 xn c1 a2 xd c2) (Y:NVar w j cy a3 yn c3 a4 yd c4) :
    Two (w.alloc (.cells #[.bool bx,.slice a1 xn.length c1,.slice a2 xd.length c2,.bool cy,.slice a3 yn.length c3,.slice a4 yd.length c4] 24)) w.heap.size (.bool bx) (.slice a1 xn.length c1) (.slice a2 xd.length c2) (.bool cy) (.slice a3 yn.length c3) (.slice a4 yd.length c4) ∧
    NVar (w.alloc (.cells #[.bool bx,.slice a1 xn.length c1,.slice a2 xd.length c2,.bool cy,.slice a3 yn.length c3,.slice a4 yd.length c4] 24)) k bx a1 xn c1 a2 xd c2 ∧
    NVar (w.alloc (.cells #[.bool bx,.slice a1 xn.length c1,.slice a2 xd.length c2,.bool cy,.slice a3 yn.length c3,.slice a4 yd.length c4] 24)) j cy a3 yn c3 a4 yd c4 ∧
    Below w.heap.size w (w.alloc (.cells #[.bool bx,.slice a1 xn.length c1,.slice a2 xd.length c2,.bool cy,.slice a3 yn.length c3,.slice a4 yd.length c4] 24)):=
 ⟨two_new _ _ _ _ _ _ _ _,X.below (below_alloc _ _),Y.below (below_alloc _ _),below_alloc _ _⟩
end
theorem same_walk (b1 o1 c1 b2 o2 c2 n:Nat) (xs:List Int) (w:World) (hb:n≤9223372036854775807)
    (k1:∀ j,j<n→w.cell? ⟨b1,o1+j,none⟩=some (.int .u32 (xs.getD j 0)))
    (k2:∀ j,j<n→w.cell? ⟨b2,o2+j,none⟩=some (.int .u32 (xs.getD j 0))) :
    Calls Tryz.prog 30 #[.slice (some ⟨b1,o1,none⟩) n c1,.slice (some ⟨b2,o2,none⟩) n c2] w fun e w'=>e=.returned (.bool true)∧∃ q,w'=w.drewN q:=by
 have K1:Hid (∀ j,j<n→w.cell? ⟨b1,o1+j,none⟩=some (.int .u32 (xs.getD j 0))):=k1;have K2:Hid (∀ j,j<n→w.cell? ⟨b2,o2+j,none⟩=some (.int .u32 (xs.getD j 0))):=k2;clear k1 k2;go_enter Tryz.func30,Tryz.ntmps30;go_wp2
 go_loopw [5] (fun s wr=>(∃ q,wr=w.drewN q)∧∃ j:Nat,j≤n∧s=.int .i64 j) (fun s _=>n - (intOf s).toNat)
 case atStart=>exact ⟨⟨0,rfl⟩,0,Nat.zero_le _,rfl⟩
 case round=>
  obtain ⟨⟨q,rfl⟩,j,hj,rfl⟩:=hrel;by_cases hlt:j<n
  · have g1:=K1.out j hlt
    have g2:=K2.out j hlt;generalize xs.getD j 0=p at *;go_wp2
    go_quiet (fail)
    go_wp2
    go_roundw
    case rel=>exact ⟨⟨_,rfl⟩,j+1,by omega,by go_num⟩
    case measure=>simp [intOf];omega
  · go_wp2
    go_ret
    exact ⟨rfl,_,rfl⟩
theorem same_nil (a1 a2:Option Addr) (c1 c2:Nat) (w:World) :
    Calls Tryz.prog 30 #[.slice a1 0 c1,.slice a2 0 c2] w fun e w'=>e=.returned (.bool true)∧w=w':=by
 go_enter Tryz.func30,Tryz.ntmps30;go_wp2
 refine wp_loop_rounds 1 ?_;rw [rounds_succ];go_wp2
 go_ret
 exact ⟨rfl,rfl⟩
/-- Same, of two slices that read as the same limbs: true. -/
theorem same_rd {B B':Nat} {w:World} {v1 v2:Value} {xs:List Int} (h1:Rd B w v1 xs) (h2:Rd B' w v2 xs) :
    Calls Tryz.prog 30 #[v1,v2] w fun e w'=>e=.returned (.bool true)∧Below w.heap.size w w':=by
 obtain ⟨_,a1,c1,rfl,i1,j1,_,f1⟩:=h1;obtain ⟨_,a2,c2,rfl,i2,j2,_,f2⟩:=h2;by_cases h0:xs.length=0
 · rw [h0]
   refine (same_nil a1 a2 c1 c2 w).mono ?_;rintro e w' ⟨rfl,rfl⟩;exact ⟨rfl,Below.refl _ _⟩
 · rcases f1 with f1 | ⟨b1,o1,rfl,_,k1⟩
   · exact absurd f1 h0
   rcases f2 with f2 | ⟨b2,o2,rfl,_,k2⟩
   · exact absurd f2 h0
   refine (same_walk b1 o1 c1 b2 o2 c2 xs.length xs w (by omega) k1 k2).mono ?_;rintro e w' ⟨rfl,q,rfl⟩;exact ⟨rfl,below_drewN' (Below.refl _ _) q⟩
theorem below_undrew {w w':World} {B:Nat} (h:Below B w.drew w'):Below B w w':=⟨h.os,h.tape,h.output,h.size,h.block⟩
section
variable {w w':World} {k j:Nat} {b:Bool} {a1 a2 a3 a4:Option Addr} {ns ds:List Int} {c1 c2 c3 c4:Nat}
theorem NVar.cells (h:NVar w k b a1 ns c1 a2 ds c2):w.cell? ⟨k,0,none⟩=some (.bool b)∧w.cell? ⟨k,1,none⟩=some (.slice a1 ns.length c1)∧w.cell? ⟨k,2,none⟩=some (.slice a2 ds.length c2):=⟨h.k0,h.k1,h.k2⟩
theorem same_rat (h1:Rd w.heap.size w (.slice a1 ns.length c1) ns) (h2:Rd w.heap.size w (.slice a2 ds.length c2) ds) (h3:Rd w.heap.size w (.slice a3 ns.length c3) ns) (h4:Rd w.heap.size w (.slice a4 ds.length c4) ds) :
    Calls Tryz.prog 7 #[.agg #[.bool b,.slice a1 ns.length c1,.slice a2 ds.length c2],.agg #[.bool b,.slice a3 ns.length c3,.slice a4 ds.length c4]] w fun e w'=>e=.returned (.bool true)∧Below w.heap.size w w':=by
 obtain ⟨X,Y,b0⟩:=nvar_in2 (bx:=b) (cy:=b) h1 h2 h3 h4;have x0:=X.k0;have x1:=X.k1;have x2:=X.k2;have y0:=Y.k0;have y1:=Y.k1;have y2:=Y.k2;have hbb:(b==b)=true:=by simp
 go_enter Tryz.func7,Tryz.ntmps7
 go_wp2_with fail
 clear x0 x1 x2 y0 y1 y2;generalize hA:(w.alloc (.cells #[.bool b,.slice a1 ns.length c1,.slice a2 ds.length c2] 24)).alloc (.cells #[.bool b,.slice a3 ns.length c3,.slice a4 ds.length c4] 24)=v at *;clear hA;refine (same_rd X.rn Y.rn).mono ?_;rintro e w1 ⟨rfl,k1⟩;replace X:=X.below k1;replace Y:=Y.below k1;have x2:=X.k2;have y2:=Y.k2
 go_wp2_with fail
 refine (same_rd X.rd Y.rd).mono ?_;rintro e w2 ⟨rfl,k2⟩;go_wp2
 go_ret
 exact ⟨rfl,b0.trans ((k1.mono b0.size).trans (k2.mono (Nat.le_trans b0.size k1.size)))⟩
end
end Go.Proofs.YtilbfkabfgnhpaaGreat
