/- The document's measure of any array. -/
import Derived.Test.YtheaeggecpfcbaaGreatR1
set_option maxRecDepth 100000
set_option maxHeartbeats 6400000
set_option linter.unusedVariables false
set_option linter.unusedSimpArgs false
namespace Go.Proofs.YtheaeggecpfcbaaGreat
open Go.RowKit
def CutP (P:Prop) (q:Value):Prop:=∃ r,q=.bool r∧(r=true↔P)
theorem rmeas_step {L:Nat} (hL:L≤16) (hM:RMeasOK L):RMeasOK (L+1):=by
 intro f D W x1 n1 y1 x2 n2 y2 t deep most hdeep hm0 hm1 hD h;obtain ⟨f,rfl⟩:∃ f',f=f'+1:=by
  cases f with
  | zero=>exact h.elim
  | succ f=>exact ⟨f,rfl⟩
 obtain rfl:=h.1.len;obtain rfl:=h.2.len;have bd1:=h.1.bounds;have bd2:=h.2.bounds;have HM:Hid (RMeasOK L):=hM;have H:Hid (ArV (f+1) D W (.slice x1 t.ns.length y1) (.slice x2 t.kids.length y2) t):=h;have HD:Hid (∀ g,D g→g<W.heap.size):=hD;have HDP:Hid (deep=17 - ((L+1:Nat):Int)):=hdeep;have hdp:0≤deep∧deep≤16:=by omega
 clear hM h hD hdeep;have X:=boxA_new W #[.slice x1 t.ns.length y1,.slice x2 t.kids.length y2] 25;have g:=below_alloc W (.cells #[.slice x1 t.ns.length y1,.slice x2 t.kids.length y2] 25);have sv:(W.alloc (.cells #[.slice x1 t.ns.length y1,.slice x2 t.kids.length y2] 25)).heap.size=W.heap.size+1:=by simp
 have z0:=X.cell 0 rfl;have z1:=X.cell 1 rfl;go_enter Tryz.func39,Tryz.ntmps39
 go_wp2_with fail
 generalize hA:W.alloc (.cells #[.slice x1 t.ns.length y1,.slice x2 t.kids.length y2] 25)=v at *;clear hA;refine (refSize3_any (H.out.1.imp (fun _ h=>h) (Agree.of g HD.out)) (fun g hg=>by have:=HD.out g hg;omega)).mono ?_;rintro e w' ⟨rfl,hw⟩;obtain rfl:=hw.symm;have hsi:=sizeF_in t.ns;by_cases he:(sizeF t.ns).2=0
 case neg=>
  have HE:Hid (refF (L+1) t most=none):=by unfold Hid;rw [refF,if_neg (fun h=>he h.1)]
  generalize (sizeF t.ns).2=E at *;generalize (sizeF t.ns).1=N at *;have d1:(E != 0)=true:=by rw [bne_iff_ne];exact he
  clear he;go_wp2
  go_ret3
  exact ⟨by rw [HE.out];rfl,g⟩
 case pos=>
  have HEz:Hid ((sizeF t.ns).2=0):=he;have d1:((sizeF t.ns).2 != 0)=false:=by rw [bne_eq_false_iff_eq];exact he
  clear he;obtain ⟨M,hMx⟩:∃ M,max (sizeF t.ns).1 1=M:=⟨_,rfl⟩;have HMx:Hid (max (sizeF t.ns).1 1=M):=hMx;generalize hE:(sizeF t.ns).2=E at *;generalize hN:(sizeF t.ns).1=N at *;by_cases hc:(t.kids.length:Int)=M∧(t.kids.length:Int)≤most
  case neg=>
   have HE:Hid (refF (L+1) t most=none):=by unfold Hid;rw [refF,if_neg];rintro ⟨_,h2,h3⟩;rw [hN] at h2;exact hc ⟨by rw [h2,hMx],h3⟩
   clear hE hN;by_cases hz:N=0
   · have dz:(N==0)=true:=by rw [beq_iff_eq];exact hz
     obtain rfl:M=1:=by omega
     by_cases hl:(t.kids.length:Int)=1
     · have dl:((t.kids.length:Int) != 1)=false:=by rw [bne_eq_false_iff_eq];exact hl
       have dm:most<1:=by have:=fun h=>hc ⟨hl,h⟩;omega
       clear hc hl hz;go_wp2
       go_ret3
       exact ⟨by rw [HE.out];rfl,g⟩
     · have dl:((t.kids.length:Int) != 1)=true:=by rw [bne_iff_ne];exact hl
       clear hc hl hz;go_wp2
       go_ret3
       exact ⟨by rw [HE.out];rfl,g⟩
   · have dz:(N==0)=false:=by rw [beq_eq_false_iff_ne];exact hz
     obtain rfl:M=N:=by omega
     by_cases hl:(t.kids.length:Int)=M
     · have dl:((t.kids.length:Int) != M)=false:=by rw [bne_eq_false_iff_eq];exact hl
       have dm:most<M:=by have:=fun h=>hc ⟨hl,h⟩;omega
       clear hc hl hz;go_wp2
       go_ret3
       exact ⟨by rw [HE.out];rfl,g⟩
     · have dl:((t.kids.length:Int) != M)=true:=by rw [bne_iff_ne];exact hl
       clear hc hl hz;go_wp2
       go_ret3
       exact ⟨by rw [HE.out];rfl,g⟩
  case pos=>
   have HE:Hid (refF (L+1) t most=finR t (refL (refF L) most t.kids (0,(t.kids.length:Int)))):=refF_succ ⟨hE.trans HEz.out,by rw [hN,hMx];exact hc.1,hc.2⟩;have dl:((t.kids.length:Int) != M)=false:=by rw [bne_eq_false_iff_eq];exact hc.1
   have dm:¬ most<M:=by have:=hc.1;have:=hc.2;omega
   have HCL:Hid ((t.kids.length:Int)=M):=hc.1;have hlm:(t.kids.length:Int)≤most:=hc.2;have HIN:Hid (∀ s r,0≤r→inR L r (refI (refF L) r s)):=fun s r hr=>refI_in hr (fun s=>refF_in L s r) s;have hMx2:=hMx;clear hc hE hN HEz HMx;rcases (show (N=0∧M=1)∨(¬ N=0∧M=N) by omega) with ⟨hz,rfl⟩ | ⟨hz,rfl⟩
   all_goals
    first
     | (have dz:(N==0)=true:=by rw [beq_iff_eq];exact hz)
     | (have dz:(M==0)=false:=by rw [beq_eq_false_iff_ne];exact hz)
    clear hz;go_wp2
    clear z0 z1
    go_loopw [11,12,13] (fun dv cv iv wr=>∃ (i:Nat) (d c:Int),dv=.int .i64 d∧cv=.int .i64 c∧iv=.int .i64 i∧i≤t.kids.length∧0≤d∧d≤L∧0≤c∧c≤most∧Hid (refL (refF L) most t.kids (0,(t.kids.length:Int))=refL (refF L) most (t.kids.drop i) (d,c))∧Below v.heap.size v wr) (fun _ _ iv _=>t.kids.length - (intOf iv).toNat)
    case atStart=>exact ⟨0,0,_,rfl,rfl,rfl,Nat.zero_le _,by omega,by omega,by have:=HCL.out;omega,by have:=HCL.out;omega,(by unfold Hid;rw [List.drop_zero,HCL.out]),Below.refl _ _⟩
    case round=>
     obtain ⟨i,d,c,rfl,rfl,rfl,hil,hd1,hd2,hc1,hc2,HL,hb⟩:=hrel;have hsz:=hb.size;have gr:Below W.heap.size W wr:=g.trans (hb.mono (by omega));have Xr:=X.below hb (by omega);have z0:=Xr.cell 0 rfl;have z1:=Xr.cell 1 rfl;by_cases hlt:i<t.kids.length
     · obtain ⟨gx,ox,rfl,hgx,hcx⟩:=H.out.2.ptr (by omega)
       obtain ⟨a1,c1,a2,c2,a3,c3,⟨e0,e1,e2,e3,e4,e5⟩,hp⟩:=hcx i hlt;have E0:=(gr.cell (p:=⟨gx,ox+i*6,none⟩) (HD.out gx hgx)).trans e0;have E1:=(gr.cell (p:=⟨gx,ox+i*6+1,none⟩) (HD.out gx hgx)).trans e1;have E2:=(gr.cell (p:=⟨gx,ox+i*6+2,none⟩) (HD.out gx hgx)).trans e2;have E3:=(gr.cell (p:=⟨gx,ox+i*6+3,none⟩) (HD.out gx hgx)).trans e3;have E4:=(gr.cell (p:=⟨gx,ox+i*6+4,none⟩) (HD.out gx hgx)).trans e4;have E5:=(gr.cell (p:=⟨gx,ox+i*6+5,none⟩) (HD.out gx hgx)).trans e5;have HST:Hid (refL (refF L) most t.kids (0,(t.kids.length:Int))=match refI (refF L) (most - c) (t.kids.getD i tr0) with
           | none=>none
           | some p=>refL (refF L) most (t.kids.drop (i+1)) (max d p.1,c+p.2)):=by
        have:=refL_step (M:=refF L) (most:=most) hlt (d,c);rw [← HL.out] at this;exact this
       clear HL hcx e0 e1 e2 e3 e4 e5;generalize t.kids.getD i tr0=T at *;have NX:=boxA_new wr #[.int .u8 T.k,.bool T.b,.slice a1 T.ns.length c1,.slice a2 T.ds.length c2,.int .i32 T.c,.slice a3 T.kids.length c3] 68;have kx:=below_alloc wr (.cells #[.int .u8 T.k,.bool T.b,.slice a1 T.ns.length c1,.slice a2 T.ds.length c2,.int .i32 T.c,.slice a3 T.kids.length c3] 68);have sx:wr.heap.size<(wr.alloc (.cells #[.int .u8 T.k,.bool T.b,.slice a1 T.ns.length c1,.slice a2 T.ds.length c2,.int .i32 T.c,.slice a3 T.kids.length c3] 68)).heap.size:=by simp
       have gx2:Below W.heap.size W (wr.alloc (.cells #[.int .u8 T.k,.bool T.b,.slice a1 T.ns.length c1,.slice a2 T.ds.length c2,.int .i32 T.c,.slice a3 T.kids.length c3] 68)):=gr.trans (kx.mono (by omega));have HIT:Hid (ItV (ArV f D (wr.alloc (.cells #[.int .u8 T.k,.bool T.b,.slice a1 T.ns.length c1,.slice a2 T.ds.length c2,.int .i32 T.c,.slice a3 T.kids.length c3] 68))) D (wr.alloc (.cells #[.int .u8 T.k,.bool T.b,.slice a1 T.ns.length c1,.slice a2 T.ds.length c2,.int .i32 T.c,.slice a3 T.kids.length c3] 68)) a1 c1 a2 c2 a3 c3 T):=hp.agree (Agree.of gx2 HD.out);have hr1:=HIT.out.rn.rd (B:=(wr.alloc (.cells #[.int .u8 T.k,.bool T.b,.slice a1 T.ns.length c1,.slice a2 T.ds.length c2,.int .i32 T.c,.slice a3 T.kids.length c3] 68)).heap.size) (fun g hg=>by have:=HD.out g hg;omega);have hr2:=HIT.out.rd.rd (B:=(wr.alloc (.cells #[.int .u8 T.k,.bool T.b,.slice a1 T.ns.length c1,.slice a2 T.ds.length c2,.int .i32 T.c,.slice a3 T.kids.length c3] 68)).heap.size) (fun g hg=>by have:=HD.out g hg;omega);have bd3:=HIT.out.bx.bounds
       go_upto_region 15 with fail
       generalize hA:wr.alloc (.cells #[.int .u8 T.k,.bool T.b,.slice a1 T.ns.length c1,.slice a2 T.ds.length c2,.int .i32 T.c,.slice a3 T.kids.length c3] 68)=wx at *;clear hA E0 E1 E2 E3 E4 E5 hp;have hl1:T.ns.length≤9223372036854775807:=by obtain ⟨_,_,_,_,_,h,_⟩:=hr1;omega
       have hl2:T.ds.length≤9223372036854775807:=by obtain ⟨_,_,_,_,_,h,_⟩:=hr2;omega
       have hDx:∀ g,D g→g<wx.heap.size:=fun g hg=>by have:=HD.out g hg;omega
       have hbx:Below v.heap.size v wx:=hb.trans (kx.mono (by omega))
       go_cut [55] from 56 to 74 (fun q wz=>CutP (T.k=1∧RightP T.b T.ns T.ds∧T.c=0∧T.kids.length=0) q∧Below wx.heap.size wx wz)
       case first=>
        have m0:=NX.cell 0 rfl;have m1:=NX.cell 1 rfl;have m2:=NX.cell 2 rfl;have m3:=NX.cell 3 rfl;have m4:=NX.cell 4 rfl;have m5:=NX.cell 5 rfl;by_cases e1:T.k=1
        · have d1:(T.k==1)=true:=by rw [beq_iff_eq];exact e1
          have H1:Hid (T.k=1):=e1;clear e1
          go_wp2_with fail
          refine (refRight_rat hr1 hr2).mono ?_;rintro e wb ⟨⟨r,rfl,hr⟩,kb⟩;have HR:Hid (r=true↔RightP T.b T.ns T.ds):=hr;clear hr m0 m1 m2 m3 m4 m5;have NB:=NX.below kb (by omega);have m4:=NB.cell 4 rfl;have m5:=NB.cell 5 rfl
          cases r with
          | false=>
           have HA:Hid (¬ (T.k=1∧RightP T.b T.ns T.ds∧T.c=0∧T.kids.length=0)):=fun h=>by have:=HR.out.2 h.2.1;cases this
           go_wp2_with fail
           go_meet
           exact ⟨⟨false,rfl,(fun h=>by cases h),fun h=>absurd h HA.out⟩,kb⟩
          | true=>
           by_cases hc:T.c=0
           · have dc:(T.c==0)=true:=by rw [beq_iff_eq];exact hc
             by_cases hk:T.kids.length=0
             · have dk:((T.kids.length:Int)==0)=true:=by rw [beq_iff_eq];omega
               have HA:Hid (T.k=1∧RightP T.b T.ns T.ds∧T.c=0∧T.kids.length=0):=⟨H1.out,HR.out.1 rfl,hc,hk⟩;clear hc hk
               go_wp2_with fail
               go_meet
               exact ⟨⟨true,rfl,fun _=>HA.out,fun _=>rfl⟩,kb⟩
             · have dk:((T.kids.length:Int)==0)=false:=by rw [beq_eq_false_iff_ne];omega
               have HA:Hid (¬ (T.k=1∧RightP T.b T.ns T.ds∧T.c=0∧T.kids.length=0)):=fun h=>hk h.2.2.2;clear hc hk
               go_wp2_with fail
               go_meet
               exact ⟨⟨false,rfl,(fun h=>by cases h),fun h=>absurd h HA.out⟩,kb⟩
           · have dc:(T.c==0)=false:=by rw [beq_eq_false_iff_ne];exact hc
             have HA:Hid (¬ (T.k=1∧RightP T.b T.ns T.ds∧T.c=0∧T.kids.length=0)):=fun h=>hc h.2.2.1;clear hc
             go_wp2_with fail
             go_meet
             exact ⟨⟨false,rfl,(fun h=>by cases h),fun h=>absurd h HA.out⟩,kb⟩
        · have d1:(T.k==1)=false:=by rw [beq_eq_false_iff_ne];exact e1
          have HA:Hid (¬ (T.k=1∧RightP T.b T.ns T.ds∧T.c=0∧T.kids.length=0)):=fun h=>e1 h.1;clear e1
          go_wp2_with fail
          go_meet
          exact ⟨⟨false,rfl,(fun h=>by cases h),fun h=>absurd h HA.out⟩,Below.refl _ _⟩
       case rest=>
        obtain ⟨⟨q1,rfl,hq1⟩,kz1⟩:=hcut;generalize wc=wz1 at *;have HQ1:Hid (q1=true↔(T.k=1∧RightP T.b T.ns T.ds∧T.c=0∧T.kids.length=0)):=hq1;clear hq1
        cases q1 with
        | true=>
         have HI:Hid (refI (refF L) (most - c) T=some (0,0)):=refI_num (HQ1.out.1 rfl);have HL2:Hid (refL (refF L) most t.kids (0,(t.kids.length:Int))=refL (refF L) most (t.kids.drop (i+1)) (d,c)):=by unfold Hid;rw [HST.out,HI.out];simp only;rw [show max d 0=d by omega,Int.add_zero]
         clear HST HIN;go_wp2
         go_roundw
         case rel=>exact ⟨i+1,d,c,rfl,rfl,by go_num,by omega,hd1,hd2,hc1,hc2,HL2,hbx.trans (kz1.mono (by omega))⟩
         case measure=>simp [intOf];omega
        | false=>
         have HN1:Hid (¬ (T.k=1∧RightP T.b T.ns T.ds∧T.c=0∧T.kids.length=0)):=fun h=>by have:=HQ1.out.2 h;cases this
         clear HQ1
         go_upto_region 16 with fail
         go_cut [75] from 76 to 93 (fun q wz=>CutP (T.k=2∧okR T.c∧noneB T=true∧T.kids.length=0) q∧Below wx.heap.size wx wz)
         case first=>
          have NZ:=NX.below kz1 (by omega);have m0:=NZ.cell 0 rfl;have m1:=NZ.cell 1 rfl;have m2:=NZ.cell 2 rfl;have m3:=NZ.cell 3 rfl;have m4:=NZ.cell 4 rfl;have m5:=NZ.cell 5 rfl;by_cases e2:T.k=2
          · have d2:(T.k==2)=true:=by rw [beq_iff_eq];exact e2
            have H2:Hid (T.k=2):=e2;clear e2
            go_wp2_with fail
            refine (refIsChar_any T.c _).mono ?_;rintro e wb ⟨⟨r,rfl,hr⟩,hw⟩;obtain rfl:=hw.symm;have HR:Hid (r=true↔okR T.c):=hr;clear hr
            cases r with
            | false=>
             have HA:Hid (¬ (T.k=2∧okR T.c∧noneB T=true∧T.kids.length=0)):=fun h=>by have:=HR.out.2 h.2.1;cases this
             go_wp2_with fail
             go_meet
             exact ⟨⟨false,rfl,(fun h=>by cases h),fun h=>absurd h HA.out⟩,kz1⟩
            | true=>
             go_wp2_with fail
             refine (noNum_any T.k T.b a1 T.ns.length c1 a2 T.ds.length c2 T.c a3 T.kids.length c3 _ hl1 hl2).mono ?_;rintro e wc ⟨rfl,hwc⟩;have kc:=below_alloc wz1 (.cells #[.int .u8 T.k,.bool T.b,.slice a1 T.ns.length c1,.slice a2 T.ds.length c2,.int .i32 T.c,.slice a3 T.kids.length c3] 68);rw [← hwc] at kc;clear hwc m0 m1 m2 m3 m4 m5;have kzc:Below wx.heap.size wx wc:=kz1.trans (kc.mono kz1.size);have NC:=NX.below kzc (by omega);have m5:=NC.cell 5 rfl;have hN:noneB T=(!T.b && decide (T.ns.length=0) && decide (T.ds.length=0)):=rfl;rw [← hN];clear hN
             cases hn:noneB T with
             | false=>
              have HA:Hid (¬ (T.k=2∧okR T.c∧noneB T=true∧T.kids.length=0)):=fun h=>by rw [hn] at h;cases h.2.2.1
              clear hn
              go_wp2_with fail
              go_meet
              exact ⟨⟨false,rfl,(fun h=>by cases h),fun h=>absurd h HA.out⟩,kzc⟩
             | true=>
              by_cases hk:T.kids.length=0
              · have dk:((T.kids.length:Int)==0)=true:=by rw [beq_iff_eq];omega
                have HA:Hid (T.k=2∧okR T.c∧noneB T=true∧T.kids.length=0):=⟨H2.out,(by first | exact HR.out.1 rfl | exact HR.out.1 trivial),hn,hk⟩
                clear hn hk
                go_wp2_with fail
                go_meet
                exact ⟨⟨true,rfl,fun _=>HA.out,fun _=>rfl⟩,kzc⟩
              · have dk:((T.kids.length:Int)==0)=false:=by rw [beq_eq_false_iff_ne];omega
                have HA:Hid (¬ (T.k=2∧okR T.c∧noneB T=true∧T.kids.length=0)):=fun h=>hk h.2.2.2;clear hn hk
                go_wp2_with fail
                go_meet
                exact ⟨⟨false,rfl,(fun h=>by cases h),fun h=>absurd h HA.out⟩,kzc⟩
          · have d2:(T.k==2)=false:=by rw [beq_eq_false_iff_ne];exact e2
            have HA:Hid (¬ (T.k=2∧okR T.c∧noneB T=true∧T.kids.length=0)):=fun h=>e2 h.1;clear e2
            go_wp2_with fail
            go_meet
            exact ⟨⟨false,rfl,(fun h=>by cases h),fun h=>absurd h HA.out⟩,kz1⟩
         case rest=>
          obtain ⟨⟨q2,rfl,hq2⟩,kz2⟩:=hcut;generalize wc=wz2 at *;have HQ2:Hid (q2=true↔(T.k=2∧okR T.c∧noneB T=true∧T.kids.length=0)):=hq2;clear hq2
          cases q2 with
          | true=>
           have HI:Hid (refI (refF L) (most - c) T=some (0,0)):=refI_ch (HQ2.out.1 rfl);have HL2:Hid (refL (refF L) most t.kids (0,(t.kids.length:Int))=refL (refF L) most (t.kids.drop (i+1)) (d,c)):=by unfold Hid;rw [HST.out,HI.out];simp only;rw [show max d 0=d by omega,Int.add_zero]
           clear HST HIN;go_wp2
           go_roundw
           case rel=>exact ⟨i+1,d,c,rfl,rfl,by go_num,by omega,hd1,hd2,hc1,hc2,HL2,hbx.trans (kz2.mono (by omega))⟩
           case measure=>simp [intOf];omega
          | false=>
           have HN2:Hid (¬ (T.k=2∧okR T.c∧noneB T=true∧T.kids.length=0)):=fun h=>by have:=HQ2.out.2 h;cases this
           clear HQ2
           go_upto_region 17 with fail
           go_cut [94] from 95 to 120 (fun q wz=>CutP (T.k=3∧T.kids.length=1∧noneB T=true∧T.c=0∧simpR (T.kids.getD 0 tr0)=false) q∧Below wx.heap.size wx wz)
           case first=>
            have NZ:=NX.below kz2 (by omega);have m0:=NZ.cell 0 rfl;have m1:=NZ.cell 1 rfl;have m2:=NZ.cell 2 rfl;have m3:=NZ.cell 3 rfl;have m4:=NZ.cell 4 rfl;have m5:=NZ.cell 5 rfl;by_cases e3:T.k=3
            · have d3:(T.k==3)=true:=by rw [beq_iff_eq];exact e3
              have H3:Hid (T.k=3):=e3;clear e3;by_cases hk:T.kids.length=1
              · have dk:((T.kids.length:Int)==1)=true:=by rw [beq_iff_eq];omega
                have HK:Hid (T.kids.length=1):=hk;have hpos:0<T.kids.length:=by omega
                clear hk
                go_wp2_with fail
                refine (noNum_any T.k T.b a1 T.ns.length c1 a2 T.ds.length c2 T.c a3 T.kids.length c3 _ hl1 hl2).mono ?_;rintro e wc ⟨rfl,hwc⟩;have kc:=below_alloc wz2 (.cells #[.int .u8 T.k,.bool T.b,.slice a1 T.ns.length c1,.slice a2 T.ds.length c2,.int .i32 T.c,.slice a3 T.kids.length c3] 68);rw [← hwc] at kc;clear hwc m0 m1 m2 m3 m4 m5;have kzc:Below wx.heap.size wx wc:=kz2.trans (kc.mono kz2.size);have NC:=NX.below kzc (by omega);have m4:=NC.cell 4 rfl;have m5:=NC.cell 5 rfl;have hN:noneB T=(!T.b && decide (T.ns.length=0) && decide (T.ds.length=0)):=rfl;rw [← hN];clear hN
                cases hn:noneB T with
                | false=>
                 have HA:Hid (¬ (T.k=3∧T.kids.length=1∧noneB T=true∧T.c=0∧simpR (T.kids.getD 0 tr0)=false)):=fun h=>by rw [hn] at h;cases h.2.2.1
                 clear hn
                 go_wp2_with fail
                 go_meet
                 exact ⟨⟨false,rfl,(fun h=>by cases h),fun h=>absurd h HA.out⟩,kzc⟩
                | true=>
                 have HN:Hid (noneB T=true):=hn;clear hn;by_cases hcc:T.c=0
                 · have dc:(T.c==0)=true:=by rw [beq_iff_eq];exact hcc
                   have HC:Hid (T.c=0):=hcc;clear hcc;obtain ⟨gy,oy,rfl,hgy,hcy⟩:=HIT.out.bx.ptr hpos;obtain ⟨u1,l1,s1,u2,l2,s2,t1,t2,hAr⟩:=hcy 0 hpos;rw [Nat.zero_mul,Nat.add_zero] at t1 t2;have T1:=(kzc.cell (p:=⟨gy,oy,none⟩) (hDx gy hgy)).trans t1;have T2:=(kzc.cell (p:=⟨gy,oy+1,none⟩) (hDx gy hgy)).trans t2;have HAR:Hid (ArV f D wc (.slice u1 l1 s1) (.slice u2 l2 s2) (T.kids.getD 0 tr0)):=hAr.agree (Agree.of kzc hDx);clear hcy t1 t2 hAr;obtain ⟨f2,rfl⟩:∃ f',f=f'+1:=by
                    cases f with
                    | zero=>exact HAR.out.elim
                    | succ f=>exact ⟨f,rfl⟩
                   go_wp2_with fail
                   refine (refIsSimple_any HAR.out (fun g hg=>by have:=hDx g hg;have:=kzc.size;omega)).mono ?_;rintro e wd ⟨rfl,hwd⟩;have kd:=below_alloc wc (.cells #[.slice u1 l1 s1,.slice u2 l2 s2] 25);rw [← hwd] at kd;clear hwd;have kzd:Below wx.heap.size wx wd:=kzc.trans (kd.mono kzc.size)
                   cases hs:simpR (T.kids.getD 0 tr0) with
                   | true=>
                    have HA:Hid (¬ (T.k=3∧T.kids.length=1∧noneB T=true∧T.c=0∧simpR (T.kids.getD 0 tr0)=false)):=fun h=>by rw [hs] at h;cases h.2.2.2.2
                    clear hs
                    go_wp2_with fail
                    go_meet
                    exact ⟨⟨false,rfl,(fun h=>by cases h),fun h=>absurd h HA.out⟩,kzd⟩
                   | false=>
                    have HA:Hid (T.k=3∧T.kids.length=1∧noneB T=true∧T.c=0∧simpR (T.kids.getD 0 tr0)=false):=⟨H3.out,HK.out,HN.out,HC.out,hs⟩;clear hs
                    go_wp2_with fail
                    go_meet
                    exact ⟨⟨true,rfl,fun _=>HA.out,fun _=>rfl⟩,kzd⟩
                 · have dc:(T.c==0)=false:=by rw [beq_eq_false_iff_ne];exact hcc
                   have HA:Hid (¬ (T.k=3∧T.kids.length=1∧noneB T=true∧T.c=0∧simpR (T.kids.getD 0 tr0)=false)):=fun h=>hcc h.2.2.2.1;clear hcc
                   go_wp2_with fail
                   go_meet
                   exact ⟨⟨false,rfl,(fun h=>by cases h),fun h=>absurd h HA.out⟩,kzc⟩
              · have dk:((T.kids.length:Int)==1)=false:=by rw [beq_eq_false_iff_ne];omega
                have HA:Hid (¬ (T.k=3∧T.kids.length=1∧noneB T=true∧T.c=0∧simpR (T.kids.getD 0 tr0)=false)):=fun h=>hk h.2.1;clear hk
                go_wp2_with fail
                go_meet
                exact ⟨⟨false,rfl,(fun h=>by cases h),fun h=>absurd h HA.out⟩,kz2⟩
            · have d3:(T.k==3)=false:=by rw [beq_eq_false_iff_ne];exact e3
              have HA:Hid (¬ (T.k=3∧T.kids.length=1∧noneB T=true∧T.c=0∧simpR (T.kids.getD 0 tr0)=false)):=fun h=>e3 h.1;clear e3
              go_wp2_with fail
              go_meet
              exact ⟨⟨false,rfl,(fun h=>by cases h),fun h=>absurd h HA.out⟩,kz2⟩
           case rest=>
            obtain ⟨⟨q3,rfl,hq3⟩,kz3⟩:=hcut;generalize wc=wz3 at *;have HQ3:Hid (q3=true↔(T.k=3∧T.kids.length=1∧noneB T=true∧T.c=0∧simpR (T.kids.getD 0 tr0)=false)):=hq3;clear hq3
            cases q3 with
            | false=>
             have HI:Hid (refI (refF L) (most - c) T=none):=refI_no HN1.out HN2.out (fun h=>by have:=HQ3.out.2 h;cases this);have HF:Hid (refF (L+1) t most=none):=by unfold Hid;rw [HE.out,HST.out,HI.out];rfl
             clear HST HIN;go_wp2
             go_ret3
             exact ⟨by rw [HF.out];rfl,g.trans ((hbx.trans (kz3.mono (by omega))).mono (by omega))⟩
            | true=>
             have hA3:=HQ3.out.1 rfl;have HI:Hid (refI (refF L) (most - c) T=refF L (T.kids.getD 0 tr0) (most - c)):=refI_box hA3;have hpos:0<T.kids.length:=by have:=hA3.2.1;omega
             clear hA3 HQ3;obtain ⟨gy,oy,rfl,hgy,hcy⟩:=HIT.out.bx.ptr hpos;obtain ⟨u1,l1,s1,u2,l2,s2,t1,t2,hAr⟩:=hcy 0 hpos;rw [Nat.zero_mul,Nat.add_zero] at t1 t2;have T1:=(kz3.cell (p:=⟨gy,oy,none⟩) (hDx gy hgy)).trans t1;have T2:=(kz3.cell (p:=⟨gy,oy+1,none⟩) (hDx gy hgy)).trans t2;have HAR:Hid (ArV f D wz3 (.slice u1 l1 s1) (.slice u2 l2 s2) (T.kids.getD 0 tr0)):=hAr.agree (Agree.of kz3 hDx);clear hcy t1 t2 hAr;have NC:=NX.below kz3 (by omega);have m5:=NC.cell 5 rfl;have hin:=HIN.out T (most - c) (by omega)
             go_wp2_with fail
             refine (HM.out f D wz3 u1 l1 s1 u2 l2 s2 (T.kids.getD 0 tr0) (deep+1) (most - c) (by have:=HDP.out;push_cast at this;omega) (by omega) (by omega) (fun g hg=>by have:=hDx g hg;have:=kz3.size;omega) HAR.out).mono ?_;rintro e wm ⟨he,km⟩;rw [← HI.out] at he;have kzm:Below wx.heap.size wx wm:=kz3.trans (km.mono kz3.size)
             cases ho:refI (refF L) (most - c) T with
             | none=>
              have HF:Hid (refF (L+1) t most=none):=by unfold Hid;rw [HE.out,HST.out,ho];rfl
              rw [ho] at he;unfold rEnd at he;dsimp only [Option.getD_none,Option.isSome_none] at he;subst he;clear HST HIN ho hin;go_wp2
              go_ret3
              exact ⟨by rw [HF.out];rfl,g.trans ((hbx.trans (kzm.mono (by omega))).mono (by omega))⟩
             | some q=>
              have hq:=hin q ho;obtain ⟨b1,b2⟩:=q;have HL2:Hid (refL (refF L) most t.kids (0,(t.kids.length:Int))=refL (refF L) most (t.kids.drop (i+1)) (max d b1,c+b2)):=by unfold Hid;rw [HST.out,ho]
              rw [ho] at he;unfold rEnd at he;dsimp only [Option.getD_some,Option.isSome_some] at he;subst he;simp only at hq;clear HST HIN ho hin;by_cases hg1:d<b1
              · have HMx:Hid (max d b1=b1):=by unfold Hid;omega
                go_wp2
                go_roundw
                case rel=>exact ⟨i+1,b1,c+b2,rfl,by go_num,by go_num,by omega,by omega,by omega,by omega,by omega,(by unfold Hid;rw [HL2.out,HMx.out]),hbx.trans (kzm.mono (by omega))⟩
                case measure=>simp [intOf];omega
              · have HMx:Hid (max d b1=d):=by unfold Hid;omega
                go_wp2
                go_roundw
                case rel=>exact ⟨i+1,d,c+b2,rfl,by go_num,by go_num,by omega,by omega,by omega,by omega,by omega,(by unfold Hid;rw [HL2.out,HMx.out]),hbx.trans (kzm.mono (by omega))⟩
                case measure=>simp [intOf];omega
     · have HF:Hid (refF (L+1) t most=some (if simpR t=true then d else d+1,c)):=by
        unfold Hid;rw [HE.out,HL.out,refL_end (by omega)];rfl
       go_wp2_with fail
       refine (refIsSimple_any (H.out.agree (Agree.of gr HD.out)) (fun g hg=>by have:=HD.out g hg;omega)).mono ?_;rintro e ws ⟨rfl,hws⟩;have ks:=below_alloc wr (.cells #[.slice x1 t.ns.length y1,.slice x2 t.kids.length y2] 25);rw [← hws] at ks;clear hws;have dmc:decide (c≤most)=true:=decide_eq_true hc2
       cases hs:simpR t with
       | true=>
        have HF2:Hid (refF (L+1) t most=some (d,c)):=by unfold Hid;rw [HF.out,hs];rfl
        clear hs HF;go_wp2
        go_ret3
        exact ⟨by rw [HF2.out];rfl,gr.trans (ks.mono (by omega))⟩
       | false=>
        have HF2:Hid (refF (L+1) t most=some (d+1,c)):=by unfold Hid;rw [HF.out,hs];rfl
        clear hs HF;go_wp2
        go_ret3
        exact ⟨by rw [HF2.out];rfl,gr.trans (ks.mono (by omega))⟩
end Go.Proofs.YtheaeggecpfcbaaGreat
