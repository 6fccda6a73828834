/- The document's Tolerant. -/
import Derived.Test.YtilbfkabfgnhpaaGreatKT
set_option maxRecDepth 100000
set_option maxHeartbeats 64000000
set_option linter.unusedVariables false
set_option linter.unusedSimpArgs false
namespace Go.Proofs.YtilbfkabfgnhpaaGreat
open Go.RowKit
theorem cmp_apart {A a b:Int} (h:A=a - b) (h0:A=0):cmpI a b=0:=cmpI_eq (by omega)
section
variable {w:World} {bt bx cy:Bool} {a1 a2 a3 a4 a5 a6:Option Addr} {c1 c2 c3 c4 c5 c6:Nat} {tn td xn xd yn yd:List Int}
theorem refTolerant_rat (h1:Rd w.heap.size w (.slice a5 tn.length c5) tn) (h2:Rd w.heap.size w (.slice a6 td.length c6) td) (h3:Rd w.heap.size w (.slice a1 xn.length c1) xn) (h4:Rd w.heap.size w (.slice a2 xd.length c2) xd) (h5:Rd w.heap.size w (.slice a3 yn.length c3) yn) (h6:Rd w.heap.size w (.slice a4 yd.length c4) yd) :
    Calls Tryz.prog 33 #[.agg #[.bool bt,.slice a5 tn.length c5,.slice a6 td.length c6],.agg #[.bool bx,.slice a1 xn.length c1,.slice a2 xd.length c2],.agg #[.bool cy,.slice a3 yn.length c3,.slice a4 yd.length c4]] w fun e w'=>Below w.heap.size w w'∧Tols (RightP bt tn td∧RightP bx xn xd∧RightP cy yn yd) (WithinI bt (val tn) (val td) (apartI bx (val xn) (val xd) cy (val yn) (val yd)) (val xn) (val xd) (val yn) (val yd)) (sg bx (val xn)*val yd) (sg cy (val yn)*val xd) e:=by
 obtain ⟨C,X,Y,g⟩:=nvar_in3 (bx:=bt) (cy:=bx) (dz:=cy) h1 h2 h3 h4 h5 h6;obtain ⟨A,hAA⟩:∃ A,A=apartI bx (val xn) (val xd) cy (val yn) (val yd):=⟨_,rfl⟩;rw [← hAA];have HAA:Hid (A=sg bx (val xn)*val yd - sg cy (val yn)*val xd):=hAA;clear hAA h1 h2 h3 h4 h5 h6;obtain ⟨C0,C1,C2⟩:=C.cells;go_enter Tryz.func33,Tryz.ntmps33
 go_wp2_with fail
 clear C0 C1 C2;generalize hA:((w.alloc (.cells #[.bool bt,.slice a5 tn.length c5,.slice a6 td.length c6] 24)).alloc (.cells #[.bool bx,.slice a1 xn.length c1,.slice a2 xd.length c2] 24)).alloc (.cells #[.bool cy,.slice a3 yn.length c3,.slice a4 yd.length c4] 24)=v at *;clear hA;refine (refRight_rat C.rn C.rd).mono ?_;rintro e wa ⟨⟨r,rfl,hr⟩,k⟩;replace C:=C.below k;replace X:=X.below k;replace Y:=Y.below k;replace g:=g.trans (k.mono g.size);clear k
 cases r with
 | false=>
  have HX:Hid (¬ RightP bt tn td):=fun h=>by have:=hr.2 h;cases this
  clear hr;go_wp2
  go_ret
  exact ⟨g,0,rfl,fun _=>rfl,fun h=>absurd h.1 HX.out,fun h=>absurd h.1 HX.out⟩
 | true=>
  have R0:Hid (RightP bt tn td):=hr.1 rfl;clear hr;obtain ⟨X0,X1,X2⟩:=X.cells
  go_wp2_with fail
  clear X0 X1 X2;refine (refRight_rat X.rn X.rd).mono ?_;rintro e wb ⟨⟨r,rfl,hr⟩,k⟩;replace C:=C.below k;replace X:=X.below k;replace Y:=Y.below k;replace g:=g.trans (k.mono g.size);clear k
  cases r with
  | false=>
   have HX:Hid (¬ RightP bx xn xd):=fun h=>by have:=hr.2 h;cases this
   clear hr;go_wp2
   go_ret
   exact ⟨g,0,rfl,fun _=>rfl,fun h=>absurd h.2.1 HX.out,fun h=>absurd h.2.1 HX.out⟩
  | true=>
   have R1:Hid (RightP bx xn xd):=hr.1 rfl;clear hr;obtain ⟨Y0,Y1,Y2⟩:=Y.cells
   go_wp2_with fail
   clear Y0 Y1 Y2;refine (refRight_rat Y.rn Y.rd).mono ?_;rintro e wc ⟨⟨r,rfl,hr⟩,k⟩;replace C:=C.below k;replace X:=X.below k;replace Y:=Y.below k;replace g:=g.trans (k.mono g.size);clear k
   cases r with
   | false=>
    have HX:Hid (¬ RightP cy yn yd):=fun h=>by have:=hr.2 h;cases this
    clear hr;go_wp2
    go_ret
    exact ⟨g,0,rfl,fun _=>rfl,fun h=>absurd h.2.2 HX.out,fun h=>absurd h.2.2 HX.out⟩
   | true=>
    have R2:Hid (RightP cy yn yd):=hr.1 rfl;clear hr;have l1:=R0.out.1;have l2:=R0.out.2.1;have l3:=R1.out.1;have l4:=R1.out.2.1;have l5:=R2.out.1;have l6:=R2.out.2.1;go_wp2
    have hcells:∀ {w':World},Below wc.heap.size wc w'→w'.cell? ⟨w.heap.size,0,none⟩=some (.bool bt)∧w'.cell? ⟨w.heap.size,1,none⟩=some (.slice a5 tn.length c5)∧w'.cell? ⟨w.heap.size,2,none⟩=some (.slice a6 td.length c6)∧w'.cell? ⟨(w.heap.size+1),0,none⟩=some (.bool bx)∧w'.cell? ⟨(w.heap.size+1),1,none⟩=some (.slice a1 xn.length c1)∧w'.cell? ⟨(w.heap.size+1),2,none⟩=some (.slice a2 xd.length c2)∧w'.cell? ⟨(w.heap.size+1+1),0,none⟩=some (.bool cy)∧w'.cell? ⟨(w.heap.size+1+1),1,none⟩=some (.slice a3 yn.length c3)∧w'.cell? ⟨(w.heap.size+1+1),2,none⟩=some (.slice a4 yd.length c4):=fun hb=>⟨(C.below hb).k0,(C.below hb).k1,(C.below hb).k2,(X.below hb).k0,(X.below hb).k1,(X.below hb).k2,(Y.below hb).k0,(Y.below hb).k1,(Y.below hb).k2⟩;obtain ⟨s0,s1,s2,s3,s4,s5,s6,s7,s8⟩:=hcells (Below.refl _ _)
    go_region_held3 (fun w'=>w'.cell? ⟨w.heap.size,0,none⟩=some (.bool bt)∧w'.cell? ⟨w.heap.size,1,none⟩=some (.slice a5 tn.length c5)∧w'.cell? ⟨w.heap.size,2,none⟩=some (.slice a6 td.length c6)∧w'.cell? ⟨(w.heap.size+1),0,none⟩=some (.bool bx)∧w'.cell? ⟨(w.heap.size+1),1,none⟩=some (.slice a1 xn.length c1)∧w'.cell? ⟨(w.heap.size+1),2,none⟩=some (.slice a2 xd.length c2)∧w'.cell? ⟨(w.heap.size+1+1),0,none⟩=some (.bool cy)∧w'.cell? ⟨(w.heap.size+1+1),1,none⟩=some (.slice a3 yn.length c3)∧w'.cell? ⟨(w.heap.size+1+1),2,none⟩=some (.slice a4 yd.length c4))
     (first | (go_keep;done) | exact tw1 | exact tw2 | exact tw3)
     (first
      | (have j:=tw2;go_at_call 108;refine (refSigned_any Z ot.rd 65 lz2 lt2 (by decide) HZ.out.1 HT.out.1).mono ?_;rintro e u3 ⟨j3,ss,z5,z6,bs,rfl,cs,ls,hs,os⟩;have t3:Below wc.heap.size wc u3:=t2.trans (j3.mono t2.size);have tw3:=hcells t3;have HS:Hid (val ss=(A.natAbs:Int)∧can ss):=⟨sg_abs (by rw [hs.out,HZ.out.2,HT.out.2,sg_not,sg_mul,sg_mul,HAA.out];omega) (val_bound cs.1).1,cs⟩;clear hs cs)
      | (have j:=tw1;go_at_call_of 65 (Value.slice a3 yn.length c3);refine (refMul_any (Y.below t1).rn (Nat.le_refl _) (X.below t1).rd (Nat.le_refl _) (by omega) (by omega)).mono ?_;rintro e u2 ⟨ts,ct,vt,lt,z3,z4,rfl,ot,j2⟩;have t2:Below wc.heap.size wc u2:=t1.trans (j2.mono t1.size);have tw2:=hcells t2;have HT:Hid (can ts∧val ts=val yn*val xd):=⟨ct,vt⟩;clear vt ct;have lt2:ts.length≤65:=(by omega);clear lt;have Z:=(oz.rd.below j2).mono j2.size)
      | (go_at_call_of 65 (Value.slice a1 xn.length c1);refine (refMul_any (w:=wc.drew) X.rn (Nat.le_refl _) Y.rd (Nat.le_refl _) (by omega) (by omega)).mono ?_;rintro e u1 ⟨zs,cz,vz,lz,z1,z2,rfl,oz,j1⟩;have t1:Below wc.heap.size wc u1:=below_undrew (w:=wc) (B:=wc.heap.size) j1;have tw1:=hcells t1;have HZ:Hid (can zs∧val zs=val xn*val yd):=⟨cz,vz⟩;clear vz cz;have lz2:zs.length≤65:=(by omega);clear lz))
    have NS:=os.rd;clear hcells s0 s1 s2 s3 s4 s5 s6 s7 s8 tw1 tw2 tw3 Z os oz ot HZ HT j1 j2 j3 t1 t2 lz2 lt2;replace X:=X.below t3;replace Y:=Y.below t3;replace C:=C.below t3;replace g:=g.trans (t3.mono g.size);clear t3;obtain ⟨X0,X1,X2⟩:=X.cells;obtain ⟨Y0,Y1,Y2⟩:=Y.cells
    go_wp2_with fail
    clear X0 X1 X2 Y0 Y1 Y2;refine (refMul_any X.rd (Nat.le_refl _) Y.rd (Nat.le_refl _) (by omega) (by omega)).mono ?_;rintro e u4 ⟨dd,cdd,vdd,ldd,dd1,dd2,rfl,odd,k⟩;have Hdd:Hid (can dd∧val dd=val xd*val yd):=⟨cdd,vdd⟩;clear cdd vdd;replace C:=C.below k;replace X:=X.below k;replace Y:=Y.below k;replace g:=g.trans (k.mono g.size);replace NS:=(NS.below k).mono k.size;clear k;have ND:=odd.rd;clear odd;obtain ⟨X0,X1,X2⟩:=X.cells;obtain ⟨Y0,Y1,Y2⟩:=Y.cells;go_wp2
    go_quiet (fail)
    go_wp2
    clear X0 X1 X2 Y0 Y1 Y2;have k:=below_drewN' (Below.refl u4.heap.size u4) nq;replace C:=C.below k;replace X:=X.below k;replace Y:=Y.below k;replace g:=g.trans (k.mono g.size);replace NS:=(NS.below k).mono k.size;replace ND:=(ND.below k).mono k.size;clear k;generalize hA:u4.drewN nq=u5 at *;clear hA;have hcells:∀ {w':World},Below u5.heap.size u5 w'→w'.cell? ⟨w.heap.size,0,none⟩=some (.bool bt)∧w'.cell? ⟨w.heap.size,1,none⟩=some (.slice a5 tn.length c5)∧w'.cell? ⟨w.heap.size,2,none⟩=some (.slice a6 td.length c6)∧w'.cell? ⟨(w.heap.size+1),0,none⟩=some (.bool bx)∧w'.cell? ⟨(w.heap.size+1),1,none⟩=some (.slice a1 xn.length c1)∧w'.cell? ⟨(w.heap.size+1),2,none⟩=some (.slice a2 xd.length c2)∧w'.cell? ⟨(w.heap.size+1+1),0,none⟩=some (.bool cy)∧w'.cell? ⟨(w.heap.size+1+1),1,none⟩=some (.slice a3 yn.length c3)∧w'.cell? ⟨(w.heap.size+1+1),2,none⟩=some (.slice a4 yd.length c4):=fun hb=>⟨(C.below hb).k0,(C.below hb).k1,(C.below hb).k2,(X.below hb).k0,(X.below hb).k1,(X.below hb).k2,(Y.below hb).k0,(Y.below hb).k1,(Y.below hb).k2⟩;obtain ⟨s0,s1,s2,s3,s4,s5,s6,s7,s8⟩:=hcells (Below.refl _ _)
    go_region_held3 (fun w'=>w'.cell? ⟨w.heap.size,0,none⟩=some (.bool bt)∧w'.cell? ⟨w.heap.size,1,none⟩=some (.slice a5 tn.length c5)∧w'.cell? ⟨w.heap.size,2,none⟩=some (.slice a6 td.length c6)∧w'.cell? ⟨(w.heap.size+1),0,none⟩=some (.bool bx)∧w'.cell? ⟨(w.heap.size+1),1,none⟩=some (.slice a1 xn.length c1)∧w'.cell? ⟨(w.heap.size+1),2,none⟩=some (.slice a2 xd.length c2)∧w'.cell? ⟨(w.heap.size+1+1),0,none⟩=some (.bool cy)∧w'.cell? ⟨(w.heap.size+1+1),1,none⟩=some (.slice a3 yn.length c3)∧w'.cell? ⟨(w.heap.size+1+1),2,none⟩=some (.slice a4 yd.length c4))
     (first | (go_keep;done) | exact tw1 | exact tw2 | exact tw3)
     (first
      | (have j:=tw2;go_at_call 59;refine (refCompare_rd Z ot.rd (Nat.le_refl _) (by omega) (by omega)).mono ?_;rintro e u8 ⟨rfl,j3⟩;have t3:Below u5.heap.size u5 u8:=t2.trans (j3.mono t2.size);have tw3:=hcells t3)
      | (have j:=tw1;go_at_call_of 65 (Value.slice a3 yn.length c3);refine (refMul_any (Y.below t1).rn (Nat.le_refl _) (X.below t1).rd (Nat.le_refl _) (by omega) (by omega)).mono ?_;rintro e u7 ⟨qs,ct,vt,lt,y3,y4,rfl,ot,j2⟩;have t2:Below u5.heap.size u5 u7:=t1.trans (j2.mono t1.size);have tw2:=hcells t2;have HT:Hid (can qs∧val qs=val yn*val xd):=⟨ct,vt⟩;clear vt ct;have lt2:qs.length≤65:=(by omega);clear lt;have Z:=(oz.rd.below j2).mono j2.size)
      | (go_at_call_of 65 (Value.slice a1 xn.length c1);refine (refMul_any (w:=u5.drew) X.rn (Nat.le_refl _) Y.rd (Nat.le_refl _) (by omega) (by omega)).mono ?_;rintro e u6 ⟨ps,cz,vz,lz,y1,y2,rfl,oz,j1⟩;have t1:Below u5.heap.size u5 u6:=below_undrew (w:=u5) (B:=u5.heap.size) j1;have tw1:=hcells t1;have HZ:Hid (can ps∧val ps=val xn*val yd):=⟨cz,vz⟩;clear vz cz;have lz2:ps.length≤65:=(by omega);clear lz))
    have HG:Hid (val ps=val xn*val yd∧val qs=val yn*val xd):=⟨HZ.out.2,HT.out.2⟩;clear hcells s0 s1 s2 s3 s4 s5 s6 s7 s8 tw1 tw2 tw3 Z oz ot HZ HT j1 j2 j3 t1 t2 lz2 lt2;replace X:=X.below t3;replace Y:=Y.below t3;replace C:=C.below t3;replace NS:=(NS.below t3).mono t3.size;replace ND:=(ND.below t3).mono t3.size;replace g:=g.trans (t3.mono g.size);clear t3;rcases Int.lt_trichotomy (val ps) (val qs) with hlt | hlt | hlt
    · have HL:Hid (val xn*val yd<val yn*val xd):=by unfold Hid;rw [← HG.out.1,← HG.out.2];omega
      have hc:=cmpI_lt hlt;rw [hc];clear hlt hc HG;obtain ⟨Y0,Y1,Y2⟩:=Y.cells;go_wp2
      go_quiet (fail)
      clear Y0 Y1 Y2;have k:=below_drewN' (Below.refl u8.heap.size u8) nq;replace C:=C.below k;replace X:=X.below k;replace Y:=Y.below k;replace g:=g.trans (k.mono g.size);replace NS:=(NS.below k).mono k.size;replace ND:=(ND.below k).mono k.size;clear k;generalize hA:u8.drewN nq=u9 at *;clear hA;obtain ⟨C0,C1,C2⟩:=C.cells
      go_wp2_with fail
      clear C0 C1 C2;refine (refMul_any NS (Nat.le_refl _) C.rd (Nat.le_refl _) (by omega) (by omega)).mono ?_;rintro e w1 ⟨e1,ce1,ve1,le1,e11,e12,rfl,oe1,k⟩;have He1:Hid (can e1∧val e1=val ss*val td):=⟨ce1,ve1⟩;clear ce1 ve1;replace C:=C.below k;replace X:=X.below k;replace Y:=Y.below k;replace g:=g.trans (k.mono g.size);replace NS:=(NS.below k).mono k.size;replace ND:=(ND.below k).mono k.size;clear k;have N1:=oe1.rd;clear oe1
      go_wp2_with fail
      refine (refMul_any N1 (Nat.le_refl _) Y.rd (Nat.le_refl _) (by omega) (by omega)).mono ?_;rintro e w2 ⟨le,cle,vle,lle,le1,le2,rfl,ole,k⟩;have Hle:Hid (can le∧val le=val e1*val yd):=⟨cle,vle⟩;clear cle vle;replace C:=C.below k;replace X:=X.below k;replace Y:=Y.below k;replace g:=g.trans (k.mono g.size);replace NS:=(NS.below k).mono k.size;replace ND:=(ND.below k).mono k.size;replace N1:=(N1.below k).mono k.size;clear k;have NL:=ole.rd;clear ole;obtain ⟨C0,C1,C2⟩:=C.cells
      go_wp2_with fail
      clear C0 C1 C2;refine (refMul_any C.rn (Nat.le_refl _) Y.rn (Nat.le_refl _) (by omega) (by omega)).mono ?_;rintro e w3 ⟨e2,ce2,ve2,le2,e21,e22,rfl,oe2,k⟩;have He2:Hid (can e2∧val e2=val tn*val yn):=⟨ce2,ve2⟩;clear ce2 ve2;replace C:=C.below k;replace X:=X.below k;replace Y:=Y.below k;replace g:=g.trans (k.mono g.size);replace NS:=(NS.below k).mono k.size;replace ND:=(ND.below k).mono k.size;replace N1:=(N1.below k).mono k.size;replace NL:=(NL.below k).mono k.size;clear k;have N2:=oe2.rd;clear oe2
      go_wp2_with fail
      refine (refMul_any N2 (Nat.le_refl _) ND (Nat.le_refl _) (by omega) (by omega)).mono ?_;rintro e w4 ⟨ri,cri,vri,lri,ri1,ri2,rfl,ori,k⟩;have Hri:Hid (can ri∧val ri=val e2*val dd):=⟨cri,vri⟩;clear cri vri;replace C:=C.below k;replace X:=X.below k;replace Y:=Y.below k;replace g:=g.trans (k.mono g.size);replace NS:=(NS.below k).mono k.size;replace ND:=(ND.below k).mono k.size;replace N1:=(N1.below k).mono k.size;replace NL:=(NL.below k).mono k.size;replace N2:=(N2.below k).mono k.size;clear k;have NR:=ori.rd;clear ori;have HQ:Hid (val le=(A.natAbs:Int)*val td*val yd∧val ri=val tn*val yn*val xd*val yd∧can le∧can ri):=⟨by rw [Hle.out.2,He1.out.2,HS.out.1],by rw [Hri.out.2,He2.out.2,Hdd.out.2,← Int.mul_assoc],Hle.out.1,Hri.out.1⟩;clear He1 He2 Hle Hri Hdd N1 N2 ND
      cases bt with
      | false=>
       obtain ⟨C0,C1,C2⟩:=C.cells
       go_wp2_with fail
       clear C0 C1 C2;refine (refCompare_rd NL NR (Nat.le_refl _) (by omega) (by omega)).mono ?_;rintro e w5 ⟨rfl,k⟩;replace C:=C.below k;replace X:=X.below k;replace Y:=Y.below k;replace g:=g.trans (k.mono g.size);replace NS:=(NS.below k).mono k.size;replace NL:=(NL.below k).mono k.size;replace NR:=(NR.below k).mono k.size;clear k;rcases Int.lt_trichotomy (val le) (val ri) with hlt | hlt | hlt
       · have HW:Hid (WithinI false (val tn) (val td) A (val xn) (val xd) (val yn) (val yd)):=Or.inr ⟨rfl,by rw [if_pos HL.out];rw [if_pos HL.out];rw [← HQ.out.1,← HQ.out.2.1];omega⟩
         have hc:=cmpI_lt hlt;rw [hc];clear hlt hc;obtain ⟨C0,C1,C2⟩:=C.cells;go_wp2
         go_ret
         exact ⟨g,0,rfl,fun _=>rfl,fun _ _=>rfl,fun _ h=>absurd HW.out h⟩
       · have HW:Hid (WithinI false (val tn) (val td) A (val xn) (val xd) (val yn) (val yd)):=Or.inr ⟨rfl,by rw [if_pos HL.out];rw [if_pos HL.out];rw [← HQ.out.1,← HQ.out.2.1];omega⟩
         have hc:=cmpI_eq hlt;rw [hc];clear hlt hc;obtain ⟨C0,C1,C2⟩:=C.cells;go_wp2
         go_ret
         exact ⟨g,0,rfl,fun _=>rfl,fun _ _=>rfl,fun _ h=>absurd HW.out h⟩
       · have HW:Hid (¬ WithinI false (val tn) (val td) A (val xn) (val xd) (val yn) (val yd)):=by
          rintro (⟨h,_⟩ | ⟨_,h⟩)
          · cases h
          · rw [if_pos HL.out] at h
            rw [if_pos HL.out] at h;rw [← HQ.out.1,← HQ.out.2.1] at h;omega
         have hss:¬ ss.length=0:=by
          intro h0;have h5:=(can_zero HS.out.2).1 h0;have h6:=HQ.out.1;rw [← HS.out.1,h5,Int.zero_mul,Int.zero_mul] at h6;have h7:=(val_bound HQ.out.2.2.2.1).1;omega
         have hsb:((ss.length:Int)==0)=false:=by rw [beq_eq_false_iff_ne];omega
         have hc:=cmpI_gt hlt;rw [hc];clear hlt hc;obtain ⟨C0,C1,C2⟩:=C.cells;obtain ⟨X0,X1,X2⟩:=X.cells;obtain ⟨Y0,Y1,Y2⟩:=Y.cells
         go_wp2_with fail
         clear C0 C1 C2 X0 X1 X2 Y0 Y1 Y2;refine (refCompare_rat X.rn X.rd Y.rn Y.rd).mono ?_;rintro e w9 ⟨k9,rc,rfl,-,hc⟩;have HC:Hid (rc=cmpI (sg bx (val xn)*val yd) (sg cy (val yn)*val xd)):=hc ⟨R1.out,R2.out⟩;clear hc;go_wp2
         go_ret
         exact ⟨g.trans (k9.mono g.size),rc,rfl,fun h=>absurd ⟨R0.out,R1.out,R2.out⟩ h,fun _ h=>absurd h HW.out,fun _ _=>HC.out⟩
      | true=>
       by_cases hs0:ss.length=0
       · have HA0:Hid (A=0):=by
          have h5:=(can_zero HS.out.2).1 hs0;have h6:=HS.out.1;unfold Hid;omega
         have HW:Hid (WithinI true (val tn) (val td) A (val xn) (val xd) (val yn) (val yd)):=Or.inl ⟨rfl,HA0.out⟩;have HC0:Hid (cmpI (sg bx (val xn)*val yd) (sg cy (val yn)*val xd)=0):=cmp_apart HAA.out HA0.out;have hsb:((ss.length:Int)==0)=true:=by rw [beq_iff_eq];omega
         by_cases hg0:yn.length=0
         · have hgb:((yn.length:Int)==0)=true:=by rw [beq_iff_eq];omega
           obtain ⟨C0,C1,C2⟩:=C.cells;go_wp2
           go_ret
           exact ⟨g,0,rfl,fun _=>rfl,fun _ _=>rfl,fun _ h=>absurd HW.out h⟩
         · have hgb:((yn.length:Int)==0)=false:=by rw [beq_eq_false_iff_ne];omega
           by_cases hl0:le.length=0
           · have hlb:((le.length:Int)==0)=true:=by rw [beq_iff_eq];omega
             by_cases hr0:ri.length=0
             · have hrb:((ri.length:Int)==0)=true:=by rw [beq_iff_eq];omega
               obtain ⟨C0,C1,C2⟩:=C.cells;go_wp2
               go_ret
               exact ⟨g,0,rfl,fun _=>rfl,fun _ _=>rfl,fun _ h=>absurd HW.out h⟩
             · have hrb:((ri.length:Int)==0)=false:=by rw [beq_eq_false_iff_ne];omega
               obtain ⟨C0,C1,C2⟩:=C.cells;obtain ⟨X0,X1,X2⟩:=X.cells;obtain ⟨Y0,Y1,Y2⟩:=Y.cells
               go_wp2_with fail
               clear C0 C1 C2 X0 X1 X2 Y0 Y1 Y2;refine (refCompare_rat X.rn X.rd Y.rn Y.rd).mono ?_;rintro e w9 ⟨k9,rc,rfl,-,hc⟩;have HC:Hid (rc=cmpI (sg bx (val xn)*val yd) (sg cy (val yn)*val xd)):=hc ⟨R1.out,R2.out⟩;clear hc;go_wp2
               go_ret
               exact ⟨g.trans (k9.mono g.size),rc,rfl,fun h=>absurd ⟨R0.out,R1.out,R2.out⟩ h,fun _ _=>HC.out.trans HC0.out,fun _ h=>absurd HW.out h⟩
           · have hlb:((le.length:Int)==0)=false:=by rw [beq_eq_false_iff_ne];omega
             obtain ⟨C0,C1,C2⟩:=C.cells;obtain ⟨X0,X1,X2⟩:=X.cells;obtain ⟨Y0,Y1,Y2⟩:=Y.cells
             go_wp2_with fail
             clear C0 C1 C2 X0 X1 X2 Y0 Y1 Y2;refine (refCompare_rat X.rn X.rd Y.rn Y.rd).mono ?_;rintro e w9 ⟨k9,rc,rfl,-,hc⟩;have HC:Hid (rc=cmpI (sg bx (val xn)*val yd) (sg cy (val yn)*val xd)):=hc ⟨R1.out,R2.out⟩;clear hc;go_wp2
             go_ret
             exact ⟨g.trans (k9.mono g.size),rc,rfl,fun h=>absurd ⟨R0.out,R1.out,R2.out⟩ h,fun _ _=>HC.out.trans HC0.out,fun _ h=>absurd HW.out h⟩
       · have HA0:Hid (¬ A=0):=by
          intro h7;have h6:=HS.out.1;rw [h7] at h6;exact hs0 ((can_zero HS.out.2).2 (by simpa using h6))
         have HW:Hid (¬ WithinI true (val tn) (val td) A (val xn) (val xd) (val yn) (val yd)):=by
          rintro (⟨_,h⟩ | ⟨h,_⟩)
          · exact HA0.out h
          · cases h
         have hl0:¬ le.length=0:=by
          intro h0;have h5:=(can_zero HQ.out.2.2.1).1 h0;have h6:=HQ.out.1;have h7:0<(A.natAbs:Int)*val td*val yd:=Int.mul_pos (Int.mul_pos (by have:=HA0.out;omega) (right_pos R0.out).1) (right_pos R2.out).1;omega
         have hsb:((ss.length:Int)==0)=false:=by rw [beq_eq_false_iff_ne];omega
         have hlb:((le.length:Int)==0)=false:=by rw [beq_eq_false_iff_ne];omega
         obtain ⟨C0,C1,C2⟩:=C.cells;obtain ⟨X0,X1,X2⟩:=X.cells;obtain ⟨Y0,Y1,Y2⟩:=Y.cells
         go_wp2_with fail
         clear C0 C1 C2 X0 X1 X2 Y0 Y1 Y2;refine (refCompare_rat X.rn X.rd Y.rn Y.rd).mono ?_;rintro e w9 ⟨k9,rc,rfl,-,hc⟩;have HC:Hid (rc=cmpI (sg bx (val xn)*val yd) (sg cy (val yn)*val xd)):=hc ⟨R1.out,R2.out⟩;clear hc;go_wp2
         go_ret
         exact ⟨g.trans (k9.mono g.size),rc,rfl,fun h=>absurd ⟨R0.out,R1.out,R2.out⟩ h,fun _ h=>absurd h HW.out,fun _ _=>HC.out⟩
    · have HL:Hid (val yn*val xd≤val xn*val yd):=by unfold Hid;rw [← HG.out.1,← HG.out.2];omega
      have hc:=cmpI_eq hlt;rw [hc];clear hlt hc HG;obtain ⟨C0,C1,C2⟩:=C.cells
      go_wp2_with fail
      clear C0 C1 C2;refine (refMul_any NS (Nat.le_refl _) C.rd (Nat.le_refl _) (by omega) (by omega)).mono ?_;rintro e w1 ⟨e1,ce1,ve1,le1,e11,e12,rfl,oe1,k⟩;have He1:Hid (can e1∧val e1=val ss*val td):=⟨ce1,ve1⟩;clear ce1 ve1;replace C:=C.below k;replace X:=X.below k;replace Y:=Y.below k;replace g:=g.trans (k.mono g.size);replace NS:=(NS.below k).mono k.size;replace ND:=(ND.below k).mono k.size;clear k;have N1:=oe1.rd;clear oe1
      go_wp2_with fail
      refine (refMul_any N1 (Nat.le_refl _) X.rd (Nat.le_refl _) (by omega) (by omega)).mono ?_;rintro e w2 ⟨le,cle,vle,lle,le1,le2,rfl,ole,k⟩;have Hle:Hid (can le∧val le=val e1*val xd):=⟨cle,vle⟩;clear cle vle;replace C:=C.below k;replace X:=X.below k;replace Y:=Y.below k;replace g:=g.trans (k.mono g.size);replace NS:=(NS.below k).mono k.size;replace ND:=(ND.below k).mono k.size;replace N1:=(N1.below k).mono k.size;clear k;have NL:=ole.rd;clear ole;obtain ⟨C0,C1,C2⟩:=C.cells
      go_wp2_with fail
      clear C0 C1 C2;refine (refMul_any C.rn (Nat.le_refl _) X.rn (Nat.le_refl _) (by omega) (by omega)).mono ?_;rintro e w3 ⟨e2,ce2,ve2,le2,e21,e22,rfl,oe2,k⟩;have He2:Hid (can e2∧val e2=val tn*val xn):=⟨ce2,ve2⟩;clear ce2 ve2;replace C:=C.below k;replace X:=X.below k;replace Y:=Y.below k;replace g:=g.trans (k.mono g.size);replace NS:=(NS.below k).mono k.size;replace ND:=(ND.below k).mono k.size;replace N1:=(N1.below k).mono k.size;replace NL:=(NL.below k).mono k.size;clear k;have N2:=oe2.rd;clear oe2
      go_wp2_with fail
      refine (refMul_any N2 (Nat.le_refl _) ND (Nat.le_refl _) (by omega) (by omega)).mono ?_;rintro e w4 ⟨ri,cri,vri,lri,ri1,ri2,rfl,ori,k⟩;have Hri:Hid (can ri∧val ri=val e2*val dd):=⟨cri,vri⟩;clear cri vri;replace C:=C.below k;replace X:=X.below k;replace Y:=Y.below k;replace g:=g.trans (k.mono g.size);replace NS:=(NS.below k).mono k.size;replace ND:=(ND.below k).mono k.size;replace N1:=(N1.below k).mono k.size;replace NL:=(NL.below k).mono k.size;replace N2:=(N2.below k).mono k.size;clear k;have NR:=ori.rd;clear ori;have HQ:Hid (val le=(A.natAbs:Int)*val td*val xd∧val ri=val tn*val xn*val xd*val yd∧can le∧can ri):=⟨by rw [Hle.out.2,He1.out.2,HS.out.1],by rw [Hri.out.2,He2.out.2,Hdd.out.2,← Int.mul_assoc],Hle.out.1,Hri.out.1⟩;clear He1 He2 Hle Hri Hdd N1 N2 ND
      cases bt with
      | false=>
       obtain ⟨C0,C1,C2⟩:=C.cells
       go_wp2_with fail
       clear C0 C1 C2;refine (refCompare_rd NL NR (Nat.le_refl _) (by omega) (by omega)).mono ?_;rintro e w5 ⟨rfl,k⟩;replace C:=C.below k;replace X:=X.below k;replace Y:=Y.below k;replace g:=g.trans (k.mono g.size);replace NS:=(NS.below k).mono k.size;replace NL:=(NL.below k).mono k.size;replace NR:=(NR.below k).mono k.size;clear k;rcases Int.lt_trichotomy (val le) (val ri) with hlt | hlt | hlt
       · have HW:Hid (WithinI false (val tn) (val td) A (val xn) (val xd) (val yn) (val yd)):=Or.inr ⟨rfl,by rw [if_neg (Int.not_lt.2 HL.out)];rw [if_neg (Int.not_lt.2 HL.out)];rw [← HQ.out.1,← HQ.out.2.1];omega⟩
         have hc:=cmpI_lt hlt;rw [hc];clear hlt hc;obtain ⟨C0,C1,C2⟩:=C.cells;go_wp2
         go_ret
         exact ⟨g,0,rfl,fun _=>rfl,fun _ _=>rfl,fun _ h=>absurd HW.out h⟩
       · have HW:Hid (WithinI false (val tn) (val td) A (val xn) (val xd) (val yn) (val yd)):=Or.inr ⟨rfl,by rw [if_neg (Int.not_lt.2 HL.out)];rw [if_neg (Int.not_lt.2 HL.out)];rw [← HQ.out.1,← HQ.out.2.1];omega⟩
         have hc:=cmpI_eq hlt;rw [hc];clear hlt hc;obtain ⟨C0,C1,C2⟩:=C.cells;go_wp2
         go_ret
         exact ⟨g,0,rfl,fun _=>rfl,fun _ _=>rfl,fun _ h=>absurd HW.out h⟩
       · have HW:Hid (¬ WithinI false (val tn) (val td) A (val xn) (val xd) (val yn) (val yd)):=by
          rintro (⟨h,_⟩ | ⟨_,h⟩)
          · cases h
          · rw [if_neg (Int.not_lt.2 HL.out)] at h
            rw [if_neg (Int.not_lt.2 HL.out)] at h;rw [← HQ.out.1,← HQ.out.2.1] at h;omega
         have hss:¬ ss.length=0:=by
          intro h0;have h5:=(can_zero HS.out.2).1 h0;have h6:=HQ.out.1;rw [← HS.out.1,h5,Int.zero_mul,Int.zero_mul] at h6;have h7:=(val_bound HQ.out.2.2.2.1).1;omega
         have hsb:((ss.length:Int)==0)=false:=by rw [beq_eq_false_iff_ne];omega
         have hc:=cmpI_gt hlt;rw [hc];clear hlt hc;obtain ⟨C0,C1,C2⟩:=C.cells;obtain ⟨X0,X1,X2⟩:=X.cells;obtain ⟨Y0,Y1,Y2⟩:=Y.cells
         go_wp2_with fail
         clear C0 C1 C2 X0 X1 X2 Y0 Y1 Y2;refine (refCompare_rat X.rn X.rd Y.rn Y.rd).mono ?_;rintro e w9 ⟨k9,rc,rfl,-,hc⟩;have HC:Hid (rc=cmpI (sg bx (val xn)*val yd) (sg cy (val yn)*val xd)):=hc ⟨R1.out,R2.out⟩;clear hc;go_wp2
         go_ret
         exact ⟨g.trans (k9.mono g.size),rc,rfl,fun h=>absurd ⟨R0.out,R1.out,R2.out⟩ h,fun _ h=>absurd h HW.out,fun _ _=>HC.out⟩
      | true=>
       by_cases hs0:ss.length=0
       · have HA0:Hid (A=0):=by
          have h5:=(can_zero HS.out.2).1 hs0;have h6:=HS.out.1;unfold Hid;omega
         have HW:Hid (WithinI true (val tn) (val td) A (val xn) (val xd) (val yn) (val yd)):=Or.inl ⟨rfl,HA0.out⟩;have HC0:Hid (cmpI (sg bx (val xn)*val yd) (sg cy (val yn)*val xd)=0):=cmp_apart HAA.out HA0.out;have hsb:((ss.length:Int)==0)=true:=by rw [beq_iff_eq];omega
         by_cases hg0:xn.length=0
         · have hgb:((xn.length:Int)==0)=true:=by rw [beq_iff_eq];omega
           obtain ⟨C0,C1,C2⟩:=C.cells;go_wp2
           go_ret
           exact ⟨g,0,rfl,fun _=>rfl,fun _ _=>rfl,fun _ h=>absurd HW.out h⟩
         · have hgb:((xn.length:Int)==0)=false:=by rw [beq_eq_false_iff_ne];omega
           by_cases hl0:le.length=0
           · have hlb:((le.length:Int)==0)=true:=by rw [beq_iff_eq];omega
             by_cases hr0:ri.length=0
             · have hrb:((ri.length:Int)==0)=true:=by rw [beq_iff_eq];omega
               obtain ⟨C0,C1,C2⟩:=C.cells;go_wp2
               go_ret
               exact ⟨g,0,rfl,fun _=>rfl,fun _ _=>rfl,fun _ h=>absurd HW.out h⟩
             · have hrb:((ri.length:Int)==0)=false:=by rw [beq_eq_false_iff_ne];omega
               obtain ⟨C0,C1,C2⟩:=C.cells;obtain ⟨X0,X1,X2⟩:=X.cells;obtain ⟨Y0,Y1,Y2⟩:=Y.cells
               go_wp2_with fail
               clear C0 C1 C2 X0 X1 X2 Y0 Y1 Y2;refine (refCompare_rat X.rn X.rd Y.rn Y.rd).mono ?_;rintro e w9 ⟨k9,rc,rfl,-,hc⟩;have HC:Hid (rc=cmpI (sg bx (val xn)*val yd) (sg cy (val yn)*val xd)):=hc ⟨R1.out,R2.out⟩;clear hc;go_wp2
               go_ret
               exact ⟨g.trans (k9.mono g.size),rc,rfl,fun h=>absurd ⟨R0.out,R1.out,R2.out⟩ h,fun _ _=>HC.out.trans HC0.out,fun _ h=>absurd HW.out h⟩
           · have hlb:((le.length:Int)==0)=false:=by rw [beq_eq_false_iff_ne];omega
             obtain ⟨C0,C1,C2⟩:=C.cells;obtain ⟨X0,X1,X2⟩:=X.cells;obtain ⟨Y0,Y1,Y2⟩:=Y.cells
             go_wp2_with fail
             clear C0 C1 C2 X0 X1 X2 Y0 Y1 Y2;refine (refCompare_rat X.rn X.rd Y.rn Y.rd).mono ?_;rintro e w9 ⟨k9,rc,rfl,-,hc⟩;have HC:Hid (rc=cmpI (sg bx (val xn)*val yd) (sg cy (val yn)*val xd)):=hc ⟨R1.out,R2.out⟩;clear hc;go_wp2
             go_ret
             exact ⟨g.trans (k9.mono g.size),rc,rfl,fun h=>absurd ⟨R0.out,R1.out,R2.out⟩ h,fun _ _=>HC.out.trans HC0.out,fun _ h=>absurd HW.out h⟩
       · have HA0:Hid (¬ A=0):=by
          intro h7;have h6:=HS.out.1;rw [h7] at h6;exact hs0 ((can_zero HS.out.2).2 (by simpa using h6))
         have HW:Hid (¬ WithinI true (val tn) (val td) A (val xn) (val xd) (val yn) (val yd)):=by
          rintro (⟨_,h⟩ | ⟨h,_⟩)
          · exact HA0.out h
          · cases h
         have hl0:¬ le.length=0:=by
          intro h0;have h5:=(can_zero HQ.out.2.2.1).1 h0;have h6:=HQ.out.1;have h7:0<(A.natAbs:Int)*val td*val xd:=Int.mul_pos (Int.mul_pos (by have:=HA0.out;omega) (right_pos R0.out).1) (right_pos R1.out).1;omega
         have hsb:((ss.length:Int)==0)=false:=by rw [beq_eq_false_iff_ne];omega
         have hlb:((le.length:Int)==0)=false:=by rw [beq_eq_false_iff_ne];omega
         obtain ⟨C0,C1,C2⟩:=C.cells;obtain ⟨X0,X1,X2⟩:=X.cells;obtain ⟨Y0,Y1,Y2⟩:=Y.cells
         go_wp2_with fail
         clear C0 C1 C2 X0 X1 X2 Y0 Y1 Y2;refine (refCompare_rat X.rn X.rd Y.rn Y.rd).mono ?_;rintro e w9 ⟨k9,rc,rfl,-,hc⟩;have HC:Hid (rc=cmpI (sg bx (val xn)*val yd) (sg cy (val yn)*val xd)):=hc ⟨R1.out,R2.out⟩;clear hc;go_wp2
         go_ret
         exact ⟨g.trans (k9.mono g.size),rc,rfl,fun h=>absurd ⟨R0.out,R1.out,R2.out⟩ h,fun _ h=>absurd h HW.out,fun _ _=>HC.out⟩
    · have HL:Hid (val yn*val xd≤val xn*val yd):=by unfold Hid;rw [← HG.out.1,← HG.out.2];omega
      have hc:=cmpI_gt hlt;rw [hc];clear hlt hc HG;obtain ⟨C0,C1,C2⟩:=C.cells
      go_wp2_with fail
      clear C0 C1 C2;refine (refMul_any NS (Nat.le_refl _) C.rd (Nat.le_refl _) (by omega) (by omega)).mono ?_;rintro e w1 ⟨e1,ce1,ve1,le1,e11,e12,rfl,oe1,k⟩;have He1:Hid (can e1∧val e1=val ss*val td):=⟨ce1,ve1⟩;clear ce1 ve1;replace C:=C.below k;replace X:=X.below k;replace Y:=Y.below k;replace g:=g.trans (k.mono g.size);replace NS:=(NS.below k).mono k.size;replace ND:=(ND.below k).mono k.size;clear k;have N1:=oe1.rd;clear oe1
      go_wp2_with fail
      refine (refMul_any N1 (Nat.le_refl _) X.rd (Nat.le_refl _) (by omega) (by omega)).mono ?_;rintro e w2 ⟨le,cle,vle,lle,le1,le2,rfl,ole,k⟩;have Hle:Hid (can le∧val le=val e1*val xd):=⟨cle,vle⟩;clear cle vle;replace C:=C.below k;replace X:=X.below k;replace Y:=Y.below k;replace g:=g.trans (k.mono g.size);replace NS:=(NS.below k).mono k.size;replace ND:=(ND.below k).mono k.size;replace N1:=(N1.below k).mono k.size;clear k;have NL:=ole.rd;clear ole;obtain ⟨C0,C1,C2⟩:=C.cells
      go_wp2_with fail
      clear C0 C1 C2;refine (refMul_any C.rn (Nat.le_refl _) X.rn (Nat.le_refl _) (by omega) (by omega)).mono ?_;rintro e w3 ⟨e2,ce2,ve2,le2,e21,e22,rfl,oe2,k⟩;have He2:Hid (can e2∧val e2=val tn*val xn):=⟨ce2,ve2⟩;clear ce2 ve2;replace C:=C.below k;replace X:=X.below k;replace Y:=Y.below k;replace g:=g.trans (k.mono g.size);replace NS:=(NS.below k).mono k.size;replace ND:=(ND.below k).mono k.size;replace N1:=(N1.below k).mono k.size;replace NL:=(NL.below k).mono k.size;clear k;have N2:=oe2.rd;clear oe2
      go_wp2_with fail
      refine (refMul_any N2 (Nat.le_refl _) ND (Nat.le_refl _) (by omega) (by omega)).mono ?_;rintro e w4 ⟨ri,cri,vri,lri,ri1,ri2,rfl,ori,k⟩;have Hri:Hid (can ri∧val ri=val e2*val dd):=⟨cri,vri⟩;clear cri vri;replace C:=C.below k;replace X:=X.below k;replace Y:=Y.below k;replace g:=g.trans (k.mono g.size);replace NS:=(NS.below k).mono k.size;replace ND:=(ND.below k).mono k.size;replace N1:=(N1.below k).mono k.size;replace NL:=(NL.below k).mono k.size;replace N2:=(N2.below k).mono k.size;clear k;have NR:=ori.rd;clear ori;have HQ:Hid (val le=(A.natAbs:Int)*val td*val xd∧val ri=val tn*val xn*val xd*val yd∧can le∧can ri):=⟨by rw [Hle.out.2,He1.out.2,HS.out.1],by rw [Hri.out.2,He2.out.2,Hdd.out.2,← Int.mul_assoc],Hle.out.1,Hri.out.1⟩;clear He1 He2 Hle Hri Hdd N1 N2 ND
      cases bt with
      | false=>
       obtain ⟨C0,C1,C2⟩:=C.cells
       go_wp2_with fail
       clear C0 C1 C2;refine (refCompare_rd NL NR (Nat.le_refl _) (by omega) (by omega)).mono ?_;rintro e w5 ⟨rfl,k⟩;replace C:=C.below k;replace X:=X.below k;replace Y:=Y.below k;replace g:=g.trans (k.mono g.size);replace NS:=(NS.below k).mono k.size;replace NL:=(NL.below k).mono k.size;replace NR:=(NR.below k).mono k.size;clear k;rcases Int.lt_trichotomy (val le) (val ri) with hlt | hlt | hlt
       · have HW:Hid (WithinI false (val tn) (val td) A (val xn) (val xd) (val yn) (val yd)):=Or.inr ⟨rfl,by rw [if_neg (Int.not_lt.2 HL.out)];rw [if_neg (Int.not_lt.2 HL.out)];rw [← HQ.out.1,← HQ.out.2.1];omega⟩
         have hc:=cmpI_lt hlt;rw [hc];clear hlt hc;obtain ⟨C0,C1,C2⟩:=C.cells;go_wp2
         go_ret
         exact ⟨g,0,rfl,fun _=>rfl,fun _ _=>rfl,fun _ h=>absurd HW.out h⟩
       · have HW:Hid (WithinI false (val tn) (val td) A (val xn) (val xd) (val yn) (val yd)):=Or.inr ⟨rfl,by rw [if_neg (Int.not_lt.2 HL.out)];rw [if_neg (Int.not_lt.2 HL.out)];rw [← HQ.out.1,← HQ.out.2.1];omega⟩
         have hc:=cmpI_eq hlt;rw [hc];clear hlt hc;obtain ⟨C0,C1,C2⟩:=C.cells;go_wp2
         go_ret
         exact ⟨g,0,rfl,fun _=>rfl,fun _ _=>rfl,fun _ h=>absurd HW.out h⟩
       · have HW:Hid (¬ WithinI false (val tn) (val td) A (val xn) (val xd) (val yn) (val yd)):=by
          rintro (⟨h,_⟩ | ⟨_,h⟩)
          · cases h
          · rw [if_neg (Int.not_lt.2 HL.out)] at h
            rw [if_neg (Int.not_lt.2 HL.out)] at h;rw [← HQ.out.1,← HQ.out.2.1] at h;omega
         have hss:¬ ss.length=0:=by
          intro h0;have h5:=(can_zero HS.out.2).1 h0;have h6:=HQ.out.1;rw [← HS.out.1,h5,Int.zero_mul,Int.zero_mul] at h6;have h7:=(val_bound HQ.out.2.2.2.1).1;omega
         have hsb:((ss.length:Int)==0)=false:=by rw [beq_eq_false_iff_ne];omega
         have hc:=cmpI_gt hlt;rw [hc];clear hlt hc;obtain ⟨C0,C1,C2⟩:=C.cells;obtain ⟨X0,X1,X2⟩:=X.cells;obtain ⟨Y0,Y1,Y2⟩:=Y.cells
         go_wp2_with fail
         clear C0 C1 C2 X0 X1 X2 Y0 Y1 Y2;refine (refCompare_rat X.rn X.rd Y.rn Y.rd).mono ?_;rintro e w9 ⟨k9,rc,rfl,-,hc⟩;have HC:Hid (rc=cmpI (sg bx (val xn)*val yd) (sg cy (val yn)*val xd)):=hc ⟨R1.out,R2.out⟩;clear hc;go_wp2
         go_ret
         exact ⟨g.trans (k9.mono g.size),rc,rfl,fun h=>absurd ⟨R0.out,R1.out,R2.out⟩ h,fun _ h=>absurd h HW.out,fun _ _=>HC.out⟩
      | true=>
       by_cases hs0:ss.length=0
       · have HA0:Hid (A=0):=by
          have h5:=(can_zero HS.out.2).1 hs0;have h6:=HS.out.1;unfold Hid;omega
         have HW:Hid (WithinI true (val tn) (val td) A (val xn) (val xd) (val yn) (val yd)):=Or.inl ⟨rfl,HA0.out⟩;have HC0:Hid (cmpI (sg bx (val xn)*val yd) (sg cy (val yn)*val xd)=0):=cmp_apart HAA.out HA0.out;have hsb:((ss.length:Int)==0)=true:=by rw [beq_iff_eq];omega
         by_cases hg0:xn.length=0
         · have hgb:((xn.length:Int)==0)=true:=by rw [beq_iff_eq];omega
           obtain ⟨C0,C1,C2⟩:=C.cells;go_wp2
           go_ret
           exact ⟨g,0,rfl,fun _=>rfl,fun _ _=>rfl,fun _ h=>absurd HW.out h⟩
         · have hgb:((xn.length:Int)==0)=false:=by rw [beq_eq_false_iff_ne];omega
           by_cases hl0:le.length=0
           · have hlb:((le.length:Int)==0)=true:=by rw [beq_iff_eq];omega
             by_cases hr0:ri.length=0
             · have hrb:((ri.length:Int)==0)=true:=by rw [beq_iff_eq];omega
               obtain ⟨C0,C1,C2⟩:=C.cells;go_wp2
               go_ret
               exact ⟨g,0,rfl,fun _=>rfl,fun _ _=>rfl,fun _ h=>absurd HW.out h⟩
             · have hrb:((ri.length:Int)==0)=false:=by rw [beq_eq_false_iff_ne];omega
               obtain ⟨C0,C1,C2⟩:=C.cells;obtain ⟨X0,X1,X2⟩:=X.cells;obtain ⟨Y0,Y1,Y2⟩:=Y.cells
               go_wp2_with fail
               clear C0 C1 C2 X0 X1 X2 Y0 Y1 Y2;refine (refCompare_rat X.rn X.rd Y.rn Y.rd).mono ?_;rintro e w9 ⟨k9,rc,rfl,-,hc⟩;have HC:Hid (rc=cmpI (sg bx (val xn)*val yd) (sg cy (val yn)*val xd)):=hc ⟨R1.out,R2.out⟩;clear hc;go_wp2
               go_ret
               exact ⟨g.trans (k9.mono g.size),rc,rfl,fun h=>absurd ⟨R0.out,R1.out,R2.out⟩ h,fun _ _=>HC.out.trans HC0.out,fun _ h=>absurd HW.out h⟩
           · have hlb:((le.length:Int)==0)=false:=by rw [beq_eq_false_iff_ne];omega
             obtain ⟨C0,C1,C2⟩:=C.cells;obtain ⟨X0,X1,X2⟩:=X.cells;obtain ⟨Y0,Y1,Y2⟩:=Y.cells
             go_wp2_with fail
             clear C0 C1 C2 X0 X1 X2 Y0 Y1 Y2;refine (refCompare_rat X.rn X.rd Y.rn Y.rd).mono ?_;rintro e w9 ⟨k9,rc,rfl,-,hc⟩;have HC:Hid (rc=cmpI (sg bx (val xn)*val yd) (sg cy (val yn)*val xd)):=hc ⟨R1.out,R2.out⟩;clear hc;go_wp2
             go_ret
             exact ⟨g.trans (k9.mono g.size),rc,rfl,fun h=>absurd ⟨R0.out,R1.out,R2.out⟩ h,fun _ _=>HC.out.trans HC0.out,fun _ h=>absurd HW.out h⟩
       · have HA0:Hid (¬ A=0):=by
          intro h7;have h6:=HS.out.1;rw [h7] at h6;exact hs0 ((can_zero HS.out.2).2 (by simpa using h6))
         have HW:Hid (¬ WithinI true (val tn) (val td) A (val xn) (val xd) (val yn) (val yd)):=by
          rintro (⟨_,h⟩ | ⟨h,_⟩)
          · exact HA0.out h
          · cases h
         have hl0:¬ le.length=0:=by
          intro h0;have h5:=(can_zero HQ.out.2.2.1).1 h0;have h6:=HQ.out.1;have h7:0<(A.natAbs:Int)*val td*val xd:=Int.mul_pos (Int.mul_pos (by have:=HA0.out;omega) (right_pos R0.out).1) (right_pos R1.out).1;omega
         have hsb:((ss.length:Int)==0)=false:=by rw [beq_eq_false_iff_ne];omega
         have hlb:((le.length:Int)==0)=false:=by rw [beq_eq_false_iff_ne];omega
         obtain ⟨C0,C1,C2⟩:=C.cells;obtain ⟨X0,X1,X2⟩:=X.cells;obtain ⟨Y0,Y1,Y2⟩:=Y.cells
         go_wp2_with fail
         clear C0 C1 C2 X0 X1 X2 Y0 Y1 Y2;refine (refCompare_rat X.rn X.rd Y.rn Y.rd).mono ?_;rintro e w9 ⟨k9,rc,rfl,-,hc⟩;have HC:Hid (rc=cmpI (sg bx (val xn)*val yd) (sg cy (val yn)*val xd)):=hc ⟨R1.out,R2.out⟩;clear hc;go_wp2
         go_ret
         exact ⟨g.trans (k9.mono g.size),rc,rfl,fun h=>absurd ⟨R0.out,R1.out,R2.out⟩ h,fun _ h=>absurd h HW.out,fun _ _=>HC.out⟩
end
end Go.Proofs.YtilbfkabfgnhpaaGreat
