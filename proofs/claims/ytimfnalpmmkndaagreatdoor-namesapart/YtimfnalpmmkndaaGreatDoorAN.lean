/- array.measuredItem at a character. -/
import Derived.Test.YtimfnalpmmkndaaGreatDoorAM
import Derived.Test.YtimfnalpmmkndaaGreatDoorAE
import Derived.Deep.RegionHeld3
set_option maxRecDepth 100000
set_option maxHeartbeats 16000000
set_option linter.unusedVariables false
set_option linter.unusedSimpArgs false
namespace Go.Proofs.YtimfnalpmmkndaaGreatDoor
open Go.RowKit
variable {L f B:Nat} {I:Tr→Option (Int×Int)} {D:Nat→Prop} {w w':World} {t:Tr} {l:List Tr}
section
variable {D:Nat→Prop} {f:Nat} {w:World} {a1 a2 a3:Option Addr} {c1 c2 c3:Nat} {t:Tr}
theorem measuredItem_k2 (e2:t.k=2) (h:ItV (ArV f D w) D w a1 c1 a2 c2 a3 c3 t) (hD:∀ g,D g→g<w.heap.size) :
    Calls Tryz.prog 109 #[.agg #[.int .u8 t.k,.bool t.b,.slice a1 t.ns.length c1,.slice a2 t.ds.length c2,.int .i32 t.c,.slice a3 t.kids.length c3],.int .i64 L] w fun e w'=>e=mEnd (measI (measF L) t)∧Below w.heap.size w w':=by
 have H:Hid (ItV (ArV f D w) D w a1 c1 a2 c2 a3 c3 t):=h;have HD:Hid (∀ g,D g→g<w.heap.size):=hD;have bd3:=h.bx.bounds;have hr1:=h.rn.rd hD;have hr2:=h.rd.rd hD;clear h hD;have X0:=boxA_new w #[.int .u8 t.k,.bool t.b,.slice a1 t.ns.length c1,.slice a2 t.ds.length c2,.int .i32 t.c,.slice a3 t.kids.length c3] 113;have k0:=below_alloc w (.cells #[.int .u8 t.k,.bool t.b,.slice a1 t.ns.length c1,.slice a2 t.ds.length c2,.int .i32 t.c,.slice a3 t.kids.length c3] 113);have k1:=below_alloc (w.alloc (.cells #[.int .u8 t.k,.bool t.b,.slice a1 t.ns.length c1,.slice a2 t.ds.length c2,.int .i32 t.c,.slice a3 t.kids.length c3] 113)) (.cells #[.int .i64 0,.int .i64 0] 132);have R:=boxA_new (w.alloc (.cells #[.int .u8 t.k,.bool t.b,.slice a1 t.ns.length c1,.slice a2 t.ds.length c2,.int .i32 t.c,.slice a3 t.kids.length c3] 113)) #[.int .i64 0,.int .i64 0] 132;rw [World.size_alloc] at R;have X:=X0.below k1 (by simp);have g:Below w.heap.size w _:=k0.trans (k1.mono (by simp));have sv:((w.alloc (.cells #[.int .u8 t.k,.bool t.b,.slice a1 t.ns.length c1,.slice a2 t.ds.length c2,.int .i32 t.c,.slice a3 t.kids.length c3] 113)).alloc (.cells #[.int .i64 0,.int .i64 0] 132)).heap.size=w.heap.size+1+1:=by simp
 replace hr1:=hr1.below g;replace hr2:=hr2.below g;have X0':=X.cell 0 rfl;have X1:=X.cell 1 rfl;have X2:=X.cell 2 rfl;have X3:=X.cell 3 rfl;have X4:=X.cell 4 rfl;have X5:=X.cell 5 rfl;have R0:=R.cell 0 rfl;have R1:=R.cell 1 rfl;have Rf0:=R.frozen 0;have Rf1:=R.frozen 1;go_enter Tryz.func109,Tryz.ntmps109;have d1:(t.k==1)=false:=by rw [beq_eq_false_iff_ne];omega
 have d2:(t.k==2)=true:=by rw [beq_iff_eq];exact e2
 have H2:Hid (t.k=2):=e2;have bn1:=hr1.2;have bn2:=hr2.2;have hl1:t.ns.length≤9223372036854775807:=by obtain ⟨_,_,_,_,h,_⟩:=bn1;omega
 have hl2:t.ds.length≤9223372036854775807:=by obtain ⟨_,_,_,_,h,_⟩:=bn2;omega
 clear e2 bn1 bn2
 go_upto_region 5 with fail
 generalize hA:(w.alloc (.cells #[.int .u8 t.k,.bool t.b,.slice a1 t.ns.length c1,.slice a2 t.ds.length c2,.int .i32 t.c,.slice a3 t.kids.length c3] 113)).alloc (.cells #[.int .i64 0,.int .i64 0] 132)=v at *;clear hA k0 k1 X0;have hcells:∀ {w':World},Below v.heap.size v w'→w'.cell? ⟨w.heap.size,1,none⟩=some (.bool t.b)∧w'.cell? ⟨w.heap.size,2,none⟩=some (.slice a1 t.ns.length c1)∧w'.cell? ⟨w.heap.size,3,none⟩=some (.slice a2 t.ds.length c2)∧w'.cell? ⟨w.heap.size,4,none⟩=some (.int .i32 t.c)∧w'.cell? ⟨w.heap.size,5,none⟩=some (.slice a3 t.kids.length c3):=fun hb=>by
  have Z:=X.below hb (by omega);exact ⟨Z.cell 1 rfl,Z.cell 2 rfl,Z.cell 3 rfl,Z.cell 4 rfl,Z.cell 5 rfl⟩
 have d0:Below v.heap.size v v.drew:=⟨rfl,rfl,rfl,Nat.le_refl _,fun _ _=>rfl⟩;by_cases hR:okR t.c
 · have HRP:Hid (okR t.c):=hR
   clear hR
   cases hn:noneB t with
   | true=>
    have HN:Hid ((!t.b && decide (t.ns.length=0) && decide (t.ds.length=0))=true):=hn;by_cases hk:t.kids.length=0
    · have dk:((t.kids.length:Int)==0)=true:=by rw [beq_iff_eq];omega
      have HE:Hid (measI (measF L) t=some (0,0)):=measI_ch H2.out ⟨HRP.out,hn,hk⟩;clear hn hk
      first | go_region_with (first | (have j:=ka;go_at_call 149;refine (isNone_any t.b a1 t.ns.length c1 a2 t.ds.length c2 _ (by omega) (by omega)).mono ?_;rintro e wb ⟨rfl,hwb⟩;have kb':=below_alloc wa (.cells #[.bool t.b,.slice a1 t.ns.length c1,.slice a2 t.ds.length c2] 110);rw [← hwb] at kb';clear hwb;rw [HN.out];have kb:Below v.heap.size v wb:=ka.trans (kb'.mono ka.size);obtain ⟨uw1,uw2,uw3,uw4,uw5⟩:=hcells kb;have Rc:=R.below kb (by omega);have q0:=Rc.cell 0 rfl;have q1:=Rc.cell 1 rfl;have p0:=Rc.frozen 0;have p1:=Rc.frozen 1) | (go_at_call 148;refine (validRune_any t.c _).mono ?_;rintro e wa ⟨⟨r,rfl,hr⟩,ka'⟩;obtain rfl:r=true:=hr.2 HRP.out;clear hr;have ka:Below v.heap.size v wa:=d0.trans (ka'.mono d0.size);obtain ⟨tw1,tw2,tw3,tw4,tw5⟩:=hcells ka;have Rc:=R.below ka (by omega);have q0:=Rc.cell 0 rfl;have q1:=Rc.cell 1 rfl;have p0:=Rc.frozen 0;have p1:=Rc.frozen 1)) | fail
      all_goals
       go_wp2
       have Rd2:=Rc.set2 (.int .i64 0) (.int .i64 0);have r0:=Rd2.cell 0 rfl;have r1:=Rd2.cell 1 rfl;refine bodyPost_ret (v:=.tuple #[.agg #[.int .i64 0,.int .i64 0],.bool true]) (by simp [results,Tryz.results109,go_sem,r0,r1]) rfl ?_;exact ⟨by rw [HE.out];rfl,Below.set2 (g.trans (kb.mono (by omega))) (by omega) _ _⟩
    · have dk:((t.kids.length:Int)==0)=false:=by rw [beq_eq_false_iff_ne];omega
      have HE:Hid (measI (measF L) t=none):=measI_ch_no H2.out (fun h=>hk h.2.2);clear hn hk
      first | go_region_with (first | (have j:=ka;go_at_call 149;refine (isNone_any t.b a1 t.ns.length c1 a2 t.ds.length c2 _ (by omega) (by omega)).mono ?_;rintro e wb ⟨rfl,hwb⟩;have kb':=below_alloc wa (.cells #[.bool t.b,.slice a1 t.ns.length c1,.slice a2 t.ds.length c2] 110);rw [← hwb] at kb';clear hwb;rw [HN.out];have kb:Below v.heap.size v wb:=ka.trans (kb'.mono ka.size);obtain ⟨uw1,uw2,uw3,uw4,uw5⟩:=hcells kb;have Rc:=R.below kb (by omega);have q0:=Rc.cell 0 rfl;have q1:=Rc.cell 1 rfl;have p0:=Rc.frozen 0;have p1:=Rc.frozen 1) | (go_at_call 148;refine (validRune_any t.c _).mono ?_;rintro e wa ⟨⟨r,rfl,hr⟩,ka'⟩;obtain rfl:r=true:=hr.2 HRP.out;clear hr;have ka:Below v.heap.size v wa:=d0.trans (ka'.mono d0.size);obtain ⟨tw1,tw2,tw3,tw4,tw5⟩:=hcells ka;have Rc:=R.below ka (by omega);have q0:=Rc.cell 0 rfl;have q1:=Rc.cell 1 rfl;have p0:=Rc.frozen 0;have p1:=Rc.frozen 1)) | fail
      all_goals
       go_wp2
       have Rd2:=Rc.set2 (.int .i64 0) (.int .i64 0);have r0:=Rd2.cell 0 rfl;have r1:=Rd2.cell 1 rfl;refine bodyPost_ret (v:=.tuple #[.agg #[.int .i64 0,.int .i64 0],.bool false]) (by simp [results,Tryz.results109,go_sem,r0,r1]) rfl ?_;exact ⟨by rw [HE.out];rfl,Below.set2 (g.trans (kb.mono (by omega))) (by omega) _ _⟩
   | false=>
    have HN:Hid ((!t.b && decide (t.ns.length=0) && decide (t.ds.length=0))=false):=hn;have HE:Hid (measI (measF L) t=none):=measI_ch_no H2.out (fun h=>by rw [hn] at h;cases h.2.1);clear hn
    first | go_region_with (first | (have j:=ka;go_at_call 149;refine (isNone_any t.b a1 t.ns.length c1 a2 t.ds.length c2 _ (by omega) (by omega)).mono ?_;rintro e wb ⟨rfl,hwb⟩;have kb':=below_alloc wa (.cells #[.bool t.b,.slice a1 t.ns.length c1,.slice a2 t.ds.length c2] 110);rw [← hwb] at kb';clear hwb;rw [HN.out];have kb:Below v.heap.size v wb:=ka.trans (kb'.mono ka.size);obtain ⟨uw1,uw2,uw3,uw4,uw5⟩:=hcells kb;have Rc:=R.below kb (by omega);have q0:=Rc.cell 0 rfl;have q1:=Rc.cell 1 rfl;have p0:=Rc.frozen 0;have p1:=Rc.frozen 1) | (go_at_call 148;refine (validRune_any t.c _).mono ?_;rintro e wa ⟨⟨r,rfl,hr⟩,ka'⟩;obtain rfl:r=true:=hr.2 HRP.out;clear hr;have ka:Below v.heap.size v wa:=d0.trans (ka'.mono d0.size);obtain ⟨tw1,tw2,tw3,tw4,tw5⟩:=hcells ka;have Rc:=R.below ka (by omega);have q0:=Rc.cell 0 rfl;have q1:=Rc.cell 1 rfl;have p0:=Rc.frozen 0;have p1:=Rc.frozen 1)) | fail
    all_goals
     go_wp2
     have Rd2:=Rc.set2 (.int .i64 0) (.int .i64 0);have r0:=Rd2.cell 0 rfl;have r1:=Rd2.cell 1 rfl;refine bodyPost_ret (v:=.tuple #[.agg #[.int .i64 0,.int .i64 0],.bool false]) (by simp [results,Tryz.results109,go_sem,r0,r1]) rfl ?_;exact ⟨by rw [HE.out];rfl,Below.set2 (g.trans (kb.mono (by omega))) (by omega) _ _⟩
 · have HRP:Hid (¬ okR t.c):=hR
   have HE:Hid (measI (measF L) t=none):=measI_ch_no H2.out (fun h=>HRP.out h.1);clear hR
   first | go_region_with (go_at_call 148;refine (validRune_any t.c _).mono ?_;rintro e wa ⟨⟨r,rfl,hr⟩,ka'⟩;obtain rfl:r=false:=(by cases r;rfl;exact absurd (hr.1 rfl) HRP.out);clear hr;have ka:Below v.heap.size v wa:=d0.trans (ka'.mono d0.size);obtain ⟨tw1,tw2,tw3,tw4,tw5⟩:=hcells ka;have Rc:=R.below ka (by omega);have q0:=Rc.cell 0 rfl;have q1:=Rc.cell 1 rfl;have p0:=Rc.frozen 0;have p1:=Rc.frozen 1) | fail
   all_goals
    go_wp2
    have Rd2:=Rc.set2 (.int .i64 0) (.int .i64 0);have r0:=Rd2.cell 0 rfl;have r1:=Rd2.cell 1 rfl;refine bodyPost_ret (v:=.tuple #[.agg #[.int .i64 0,.int .i64 0],.bool false]) (by simp [results,Tryz.results109,go_sem,r0,r1]) rfl ?_;exact ⟨by rw [HE.out];rfl,Below.set2 (g.trans (ka.mono (by omega))) (by omega) _ _⟩
end
section
variable {D:Nat→Prop} {f:Nat} {w:World} {a1 a2 a3:Option Addr} {c1 c2 c3:Nat} {t:Tr}
theorem measuredItem_k3 (hM:MeasOK L) (e3:t.k=3) (h:ItV (ArV f D w) D w a1 c1 a2 c2 a3 c3 t) (hD:∀ g,D g→g<w.heap.size) :
    Calls Tryz.prog 109 #[.agg #[.int .u8 t.k,.bool t.b,.slice a1 t.ns.length c1,.slice a2 t.ds.length c2,.int .i32 t.c,.slice a3 t.kids.length c3],.int .i64 L] w fun e w'=>e=mEnd (measI (measF L) t)∧Below w.heap.size w w':=by
 have HM:Hid (MeasOK L):=hM;have H:Hid (ItV (ArV f D w) D w a1 c1 a2 c2 a3 c3 t):=h;have HD:Hid (∀ g,D g→g<w.heap.size):=hD;have bd3:=h.bx.bounds;have hr1:=h.rn.rd hD;have hr2:=h.rd.rd hD;clear hM h hD;have X0:=boxA_new w #[.int .u8 t.k,.bool t.b,.slice a1 t.ns.length c1,.slice a2 t.ds.length c2,.int .i32 t.c,.slice a3 t.kids.length c3] 113;have k0:=below_alloc w (.cells #[.int .u8 t.k,.bool t.b,.slice a1 t.ns.length c1,.slice a2 t.ds.length c2,.int .i32 t.c,.slice a3 t.kids.length c3] 113);have k1:=below_alloc (w.alloc (.cells #[.int .u8 t.k,.bool t.b,.slice a1 t.ns.length c1,.slice a2 t.ds.length c2,.int .i32 t.c,.slice a3 t.kids.length c3] 113)) (.cells #[.int .i64 0,.int .i64 0] 132);have R:=boxA_new (w.alloc (.cells #[.int .u8 t.k,.bool t.b,.slice a1 t.ns.length c1,.slice a2 t.ds.length c2,.int .i32 t.c,.slice a3 t.kids.length c3] 113)) #[.int .i64 0,.int .i64 0] 132;rw [World.size_alloc] at R;have X:=X0.below k1 (by simp);have g:Below w.heap.size w _:=k0.trans (k1.mono (by simp));have sv:((w.alloc (.cells #[.int .u8 t.k,.bool t.b,.slice a1 t.ns.length c1,.slice a2 t.ds.length c2,.int .i32 t.c,.slice a3 t.kids.length c3] 113)).alloc (.cells #[.int .i64 0,.int .i64 0] 132)).heap.size=w.heap.size+1+1:=by simp
 replace hr1:=hr1.below g;replace hr2:=hr2.below g;have X0':=X.cell 0 rfl;have X1:=X.cell 1 rfl;have X2:=X.cell 2 rfl;have X3:=X.cell 3 rfl;have X4:=X.cell 4 rfl;have X5:=X.cell 5 rfl;have R0:=R.cell 0 rfl;have R1:=R.cell 1 rfl;have Rf0:=R.frozen 0;have Rf1:=R.frozen 1;go_enter Tryz.func109,Tryz.ntmps109;have d1:(t.k==1)=false:=by rw [beq_eq_false_iff_ne];omega
 have d2:(t.k==2)=false:=by rw [beq_eq_false_iff_ne];omega
 have d3:(t.k==3)=true:=by rw [beq_iff_eq];exact e3
 have H3:Hid (t.k=3):=e3;have hl1:t.ns.length≤9223372036854775807:=by obtain ⟨_,_,_,_,_,h,_⟩:=hr1;omega
 have hl2:t.ds.length≤9223372036854775807:=by obtain ⟨_,_,_,_,_,h,_⟩:=hr2;omega
 clear e3
 go_wp2_with fail
 generalize hA:(w.alloc (.cells #[.int .u8 t.k,.bool t.b,.slice a1 t.ns.length c1,.slice a2 t.ds.length c2,.int .i32 t.c,.slice a3 t.kids.length c3] 113)).alloc (.cells #[.int .i64 0,.int .i64 0] 132)=v at *;clear hA k0 k1 X0;refine (isNone_any t.b a1 t.ns.length c1 a2 t.ds.length c2 _ hl1 hl2).mono ?_;rintro e wb ⟨rfl,hwb⟩;have kb:=below_alloc v (.cells #[.bool t.b,.slice a1 t.ns.length c1,.slice a2 t.ds.length c2] 110);rw [← hwb] at kb;clear hwb X0' X1 X2 X3 X4 X5 R0 R1 Rf0 Rf1;have sb:=kb.size;have Xb:=X.below kb (by omega);have x4:=Xb.cell 4 rfl;have x5:=Xb.cell 5 rfl;have Rc:=R.below kb (by omega);have q0:=Rc.cell 0 rfl;have q1:=Rc.cell 1 rfl;have p0:=Rc.frozen 0;have p1:=Rc.frozen 1;have hN:noneB t=(!t.b && decide (t.ns.length=0) && decide (t.ds.length=0)):=rfl;rw [← hN];have HNB:Hid (∀ r,noneB t=r→noneB t=r):=fun _ h=>h
 cases hn:noneB t with
 | false=>
  have HE:Hid (measI (measF L) t=none):=measI_box_no H3.out (fun h=>by rw [hn] at h;cases h.1);clear hn hN;go_wp2
  have Rd2:=Rc.set2 (.int .i64 0) (.int .i64 0);have r0:=Rd2.cell 0 rfl;have r1:=Rd2.cell 1 rfl;refine bodyPost_ret (v:=.tuple #[.agg #[.int .i64 0,.int .i64 0],.bool false]) (by simp [results,Tryz.results109,go_sem,r0,r1]) rfl ?_;exact ⟨by rw [HE.out];rfl,Below.set2 (g.trans (kb.mono (by omega))) (by omega) _ _⟩
 | true=>
  have HN:Hid (noneB t=true):=hn;clear hn hN;by_cases hc:t.c=0
  · have dc:(t.c != 0)=false:=by rw [bne_eq_false_iff_eq];exact hc
    by_cases hk:t.kids.length=1
    · have dk:((t.kids.length:Int) != 1)=false:=by rw [bne_eq_false_iff_eq];omega
      have HC:Hid (t.c=0):=hc;have HKL:Hid (t.kids.length=1):=hk;have hpos:0<t.kids.length:=by omega
      clear hc hk;obtain ⟨gx,ox,rfl,hgx,hcx⟩:=H.out.bx.ptr hpos;obtain ⟨x1,n1,y1,x2,n2,y2,z1,z2,hA⟩:=hcx 0 hpos;rw [Nat.zero_mul,Nat.add_zero] at z1 z2;have gW:Below w.heap.size w wb:=g.trans (kb.mono (by omega));have u1:=(gW.cell (p:=⟨gx,ox,none⟩) (HD.out gx hgx)).trans z1;have u2:=(gW.cell (p:=⟨gx,ox+1,none⟩) (HD.out gx hgx)).trans z2;have HAR:Hid (ArV f D wb (.slice x1 n1 y1) (.slice x2 n2 y2) (t.kids.getD 0 tr0)):=hA.agree (Agree.of gW HD.out);have HDb:Hid (∀ g,D g→g<wb.heap.size):=fun g hg=>by have:=HD.out g hg;omega
      clear hcx z1 z2 hA;obtain ⟨f,rfl⟩:∃ f',f=f'+1:=by
       cases f with
       | zero=>exact HAR.out.elim
       | succ f=>exact ⟨f,rfl⟩
      go_wp2_with fail
      refine (isSimpleT_any HAR.out HDb.out).mono ?_;rintro e wc ⟨rfl,hwc⟩;have kc':=below_alloc wb (.cells #[.slice x1 n1 y1,.slice x2 n2 y2] 29);rw [← hwc] at kc';clear hwc;have kc:Below v.heap.size v wc:=kb.trans (kc'.mono sb);have sc:=kc'.size;have Xc:=X.below kc (by omega);have x5:=Xc.cell 5 rfl;have Rc:=R.below kc (by omega);have q0:=Rc.cell 0 rfl;have q1:=Rc.cell 1 rfl;have p0:=Rc.frozen 0;have p1:=Rc.frozen 1
      cases hs:simpB (t.kids.getD 0 tr0) with
      | true=>
       have HE:Hid (measI (measF L) t=none):=measI_box_no H3.out (fun h=>by rw [hs] at h;cases h.2.2.2);clear hs;go_wp2
       have Rd2:=Rc.set2 (.int .i64 0) (.int .i64 0);have r0:=Rd2.cell 0 rfl;have r1:=Rd2.cell 1 rfl;refine bodyPost_ret (v:=.tuple #[.agg #[.int .i64 0,.int .i64 0],.bool false]) (by simp [results,Tryz.results109,go_sem,r0,r1]) rfl ?_;exact ⟨by rw [HE.out];rfl,Below.set2 (g.trans (kc.mono (by omega))) (by omega) _ _⟩
      | false=>
       have HE:Hid (measI (measF L) t=measF L (t.kids.getD 0 tr0)):=measI_box H3.out ⟨HN.out,HC.out,HKL.out,hs⟩;clear hs;have gc:Below w.heap.size w wc:=g.trans (kc.mono (by omega));have u1:=(kc'.cell (p:=⟨gx,ox,none⟩) (HDb.out gx hgx)).trans u1;have u2:=(kc'.cell (p:=⟨gx,ox+1,none⟩) (HDb.out gx hgx)).trans u2
       go_wp2_with fail
       refine (HM.out (f+1) D wc x1 n1 y1 x2 n2 y2 (t.kids.getD 0 tr0) (fun g hg=>by have:=HDb.out g hg;omega) (HAR.out.agree (Agree.of kc' HDb.out))).mono ?_;rintro e wd ⟨he,kd'⟩;have sd:=kd'.size;have kd:Below v.heap.size v wd:=kc.trans (kd'.mono (by omega));have Rd1:=R.below kd (by omega);have q0:=Rd1.cell 0 rfl;have q1:=Rd1.cell 1 rfl;have p0:=Rd1.frozen 0;have p1:=Rd1.frozen 1;rw [← HE.out] at he;unfold mEnd at he;subst he;generalize hO1:((measI (measF L) t).getD (0,0)).1=A1 at *;generalize hO2:((measI (measF L) t).getD (0,0)).2=A2 at *;generalize hO3:(measI (measF L) t).isSome=A3 at *;have HO:Hid (mEnd (measI (measF L) t)=.returned (.tuple #[.agg #[.int .i64 A1,.int .i64 A2],.bool A3])):=by unfold Hid mEnd;rw [hO1,hO2,hO3]
       clear hO1 hO2 hO3;go_wp2
       have Rd2:=Rd1.set2 (.int .i64 A1) (.int .i64 A2);have r0:=Rd2.cell 0 rfl;have r1:=Rd2.cell 1 rfl;refine bodyPost_ret (v:=.tuple #[.agg #[.int .i64 A1,.int .i64 A2],.bool A3]) (by simp [results,Tryz.results109,go_sem,r0,r1]) rfl ?_;exact ⟨HO.out.symm,Below.set2 (g.trans (kd.mono (by omega))) (by omega) _ _⟩
    · have dk:((t.kids.length:Int) != 1)=true:=by rw [bne_iff_ne];omega
      have HE:Hid (measI (measF L) t=none):=measI_box_no H3.out (fun h=>hk h.2.2.1);clear hc hk;go_wp2
      have Rd2:=Rc.set2 (.int .i64 0) (.int .i64 0);have r0:=Rd2.cell 0 rfl;have r1:=Rd2.cell 1 rfl;refine bodyPost_ret (v:=.tuple #[.agg #[.int .i64 0,.int .i64 0],.bool false]) (by simp [results,Tryz.results109,go_sem,r0,r1]) rfl ?_;exact ⟨by rw [HE.out];rfl,Below.set2 (g.trans (kb.mono (by omega))) (by omega) _ _⟩
  · have dc:(t.c != 0)=true:=by rw [bne_iff_ne];exact hc
    have HE:Hid (measI (measF L) t=none):=measI_box_no H3.out (fun h=>hc h.2.1);clear hc;go_wp2
    have Rd2:=Rc.set2 (.int .i64 0) (.int .i64 0);have r0:=Rd2.cell 0 rfl;have r1:=Rd2.cell 1 rfl;refine bodyPost_ret (v:=.tuple #[.agg #[.int .i64 0,.int .i64 0],.bool false]) (by simp [results,Tryz.results109,go_sem,r0,r1]) rfl ?_;exact ⟨by rw [HE.out];rfl,Below.set2 (g.trans (kb.mono (by omega))) (by omega) _ _⟩
theorem measuredItem_k0 (e1:¬ t.k=1) (e2:¬ t.k=2) (e3:¬ t.k=3) (h:ItV (ArV f D w) D w a1 c1 a2 c2 a3 c3 t) (hD:∀ g,D g→g<w.heap.size) :
    Calls Tryz.prog 109 #[.agg #[.int .u8 t.k,.bool t.b,.slice a1 t.ns.length c1,.slice a2 t.ds.length c2,.int .i32 t.c,.slice a3 t.kids.length c3],.int .i64 L] w fun e w'=>e=mEnd (measI (measF L) t)∧Below w.heap.size w w':=by
 have H:Hid (ItV (ArV f D w) D w a1 c1 a2 c2 a3 c3 t):=h;have HD:Hid (∀ g,D g→g<w.heap.size):=hD;have bd3:=h.bx.bounds;have hr1:=h.rn.rd hD;have hr2:=h.rd.rd hD;clear h hD;have X0:=boxA_new w #[.int .u8 t.k,.bool t.b,.slice a1 t.ns.length c1,.slice a2 t.ds.length c2,.int .i32 t.c,.slice a3 t.kids.length c3] 113;have k0:=below_alloc w (.cells #[.int .u8 t.k,.bool t.b,.slice a1 t.ns.length c1,.slice a2 t.ds.length c2,.int .i32 t.c,.slice a3 t.kids.length c3] 113);have k1:=below_alloc (w.alloc (.cells #[.int .u8 t.k,.bool t.b,.slice a1 t.ns.length c1,.slice a2 t.ds.length c2,.int .i32 t.c,.slice a3 t.kids.length c3] 113)) (.cells #[.int .i64 0,.int .i64 0] 132);have R:=boxA_new (w.alloc (.cells #[.int .u8 t.k,.bool t.b,.slice a1 t.ns.length c1,.slice a2 t.ds.length c2,.int .i32 t.c,.slice a3 t.kids.length c3] 113)) #[.int .i64 0,.int .i64 0] 132;rw [World.size_alloc] at R;have X:=X0.below k1 (by simp);have g:Below w.heap.size w _:=k0.trans (k1.mono (by simp));have sv:((w.alloc (.cells #[.int .u8 t.k,.bool t.b,.slice a1 t.ns.length c1,.slice a2 t.ds.length c2,.int .i32 t.c,.slice a3 t.kids.length c3] 113)).alloc (.cells #[.int .i64 0,.int .i64 0] 132)).heap.size=w.heap.size+1+1:=by simp
 replace hr1:=hr1.below g;replace hr2:=hr2.below g;have X0':=X.cell 0 rfl;have X1:=X.cell 1 rfl;have X2:=X.cell 2 rfl;have X3:=X.cell 3 rfl;have X4:=X.cell 4 rfl;have X5:=X.cell 5 rfl;have R0:=R.cell 0 rfl;have R1:=R.cell 1 rfl;have Rf0:=R.frozen 0;have Rf1:=R.frozen 1;go_enter Tryz.func109,Tryz.ntmps109;have d1:(t.k==1)=false:=by rw [beq_eq_false_iff_ne];exact e1
 have d2:(t.k==2)=false:=by rw [beq_eq_false_iff_ne];exact e2
 have d3:(t.k==3)=false:=by rw [beq_eq_false_iff_ne];exact e3
 have HE:Hid (measI (measF L) t=none):=measI_else e1 e2 e3;clear e1 e2 e3;go_wp2
 refine bodyPost_ret (v:=.tuple #[.agg #[.int .i64 0,.int .i64 0],.bool false]) (by simp [results,Tryz.results109,go_sem,R0,R1]) rfl ?_;exact ⟨by rw [HE.out];rfl,g⟩
end
def inL (L:Nat) (o:Option (Int×Int)):Prop:=∀ p,o=some p→0≤p.1∧p.1≤L∧0≤p.2∧p.2≤16384
theorem measI_in {M:Tr→Option (Int×Int)} (hM:∀ t,inL L (M t)) (t:Tr):inL L (measI M t):=by
 intro p hp;by_cases e1:t.k=1
 · by_cases h:RightP t.b t.ns t.ds∧t.c=0∧t.kids.length=0
   · rw [measI_num e1 h] at hp;cases hp;simp
   · rw [measI_num_no e1 h] at hp;cases hp
 by_cases e2:t.k=2
 · by_cases h:okR t.c∧noneB t=true∧t.kids.length=0
   · rw [measI_ch e2 h] at hp;cases hp;simp
   · rw [measI_ch_no e2 h] at hp;cases hp
 by_cases e3:t.k=3
 · by_cases h:noneB t=true∧t.c=0∧t.kids.length=1∧simpB (t.kids.getD 0 tr0)=false
   · rw [measI_box e3 h] at hp;exact hM _ p hp
   · rw [measI_box_no e3 h] at hp;cases hp
 rw [measI_else e1 e2 e3] at hp;cases hp
theorem measL_in (hI:∀ t,inL L (I t)):∀ (l:List Tr) (w p:Int×Int),0≤w.1→w.1≤L+1→0≤w.2→w.2≤16384→measL I l w=some p→0≤p.1∧p.1≤L+1∧0≤p.2∧p.2≤16384
 | [],w,p,h1,h2,h3,h4,h=>by rw [measL] at h;cases h;exact ⟨h1,h2,h3,h4⟩
 | t :: r,w,p,h1,h2,h3,h4,h=>by
  rw [measL] at h
  cases hi:I t with
  | none=>rw [hi] at h;cases h
  | some q=>
   rw [hi] at h;have hq:=hI t q hi;simp only at h;by_cases hc:16384<w.2+q.2
   · rw [if_pos hc] at h;cases h
   · rw [if_neg hc] at h
     exact measL_in hI r _ p (by simp only;omega) (by simp only;omega) (by simp only;omega) (by simp only;omega) h
theorem measF_in:∀ (L:Nat) (t:Tr),inL L (measF L t)
 | 0,t=>by intro p hp;rw [measF] at hp;cases hp
 | L+1,t=>by
  intro p hp;rw [measF] at hp;by_cases hc:(sizeF t.ns).2=0∧(t.kids.length:Int)=max (sizeF t.ns).1 1
  · rw [if_pos hc] at hp
    cases hl:measL (measI (measF L)) t.kids (1,(t.kids.length:Int)) with
    | none=>rw [hl] at hp;cases hp
    | some q=>
     rw [hl] at hp;have hs:=sizeF_in t.ns;have:=measL_in (fun s=>measI_in (measF_in L) s) t.kids _ q (by simp only;omega) (by simp only;omega) (by simp only;omega) (by simp only;omega) hl;simp only at hp
     cases hp
     refine ⟨?_,?_,this.2.2.1,this.2.2.2⟩
     · simp only;split
       · omega
       · exact this.1
     · simp only;split
       · omega
       · have:=this.2.1;push_cast;omega
  · rw [if_neg hc] at hp;cases hp
theorem measuredItem_all {a1 a2 a3:Option Addr} {c1 c2 c3:Nat} (hM:MeasOK L) (h:ItV (ArV f D w) D w a1 c1 a2 c2 a3 c3 t) (hD:∀ g,D g→g<w.heap.size) :
    Calls Tryz.prog 109 #[.agg #[.int .u8 t.k,.bool t.b,.slice a1 t.ns.length c1,.slice a2 t.ds.length c2,.int .i32 t.c,.slice a3 t.kids.length c3],.int .i64 L] w fun e w'=>e=mEnd (measI (measF L) t)∧Below w.heap.size w w':=by
 by_cases e1:t.k=1
 · exact measuredItem_k1 e1 h hD
 by_cases e2:t.k=2
 · exact measuredItem_k2 e2 h hD
 by_cases e3:t.k=3
 · exact measuredItem_k3 hM e3 h hD
 exact measuredItem_k0 e1 e2 e3 h hD
theorem measL_step {i:Nat} (hi:i<l.length) (w:Int×Int):measL I (l.drop i) w=match I (l.getD i tr0) with
    | none=>none
    | some p=>if 16384<w.2+p.2 then none else measL I (l.drop (i+1)) (max w.1 (1+p.1),w.2+p.2):=by
 rw [List.drop_eq_getElem_cons hi,measL];have e:l.getD i tr0=l[i]:=by simp [List.getD,hi]
 rw [e]
 cases I l[i] <;> rfl
theorem measL_end {i:Nat} (hi:l.length≤i) (w:Int×Int):measL I (l.drop i) w=some w:=by
 rw [List.drop_eq_nil_of_le hi,measL]
def finM (t:Tr) (o:Option (Int×Int)):Option (Int×Int):=match o with | none=>none | some p=>some (if simpB t=true then 0 else p.1,p.2)
theorem measF_succ (hc:(sizeF t.ns).2=0∧(t.kids.length:Int)=max (sizeF t.ns).1 1):measF (L+1) t=finM t (measL (measI (measF L)) t.kids (1,(t.kids.length:Int))):=by
 rw [measF,if_pos hc];unfold finM
 cases measL (measI (measF L)) t.kids (1,(t.kids.length:Int)) <;> rfl
theorem meas_step (hL:L≤1000) (hM:MeasOK L):MeasOK (L+1):=by
 intro f D W x1 n1 y1 x2 n2 y2 t hD h;obtain ⟨f,rfl⟩:∃ f',f=f'+1:=by
  cases f with
  | zero=>exact h.elim
  | succ f=>exact ⟨f,rfl⟩
 obtain rfl:=h.1.len;obtain rfl:=h.2.len;have bd1:=h.1.bounds;have bd2:=h.2.bounds;have HM:Hid (MeasOK L):=hM;have H:Hid (ArV (f+1) D W (.slice x1 t.ns.length y1) (.slice x2 t.kids.length y2) t):=h;have HD:Hid (∀ g,D g→g<W.heap.size):=hD;clear hM h hD;have X0:=boxA_new W #[.slice x1 t.ns.length y1,.slice x2 t.kids.length y2] 29;have k0:=below_alloc W (.cells #[.slice x1 t.ns.length y1,.slice x2 t.kids.length y2] 29);have k1:=below_alloc (W.alloc (.cells #[.slice x1 t.ns.length y1,.slice x2 t.kids.length y2] 29)) (.cells #[.int .i64 0,.int .i64 0] 132);have R:=boxA_new (W.alloc (.cells #[.slice x1 t.ns.length y1,.slice x2 t.kids.length y2] 29)) #[.int .i64 0,.int .i64 0] 132;rw [World.size_alloc] at R;have X:=X0.below k1 (by simp);have g:Below W.heap.size W _:=k0.trans (k1.mono (by simp));have sv:((W.alloc (.cells #[.slice x1 t.ns.length y1,.slice x2 t.kids.length y2] 29)).alloc (.cells #[.int .i64 0,.int .i64 0] 132)).heap.size=W.heap.size+1+1:=by simp
 have z0:=X.cell 0 rfl;have z1:=X.cell 1 rfl;go_enter Tryz.func76,Tryz.ntmps76
 go_wp2_with fail
 generalize hA:(W.alloc (.cells #[.slice x1 t.ns.length y1,.slice x2 t.kids.length y2] 29)).alloc (.cells #[.int .i64 0,.int .i64 0] 132)=v at *;clear hA k0 k1 X0;refine (arrSize_any (H.out.1.imp (fun _ h=>h) (Agree.of g HD.out)) (fun g hg=>by have:=HD.out g hg;omega)).mono ?_;rintro e w' ⟨rfl,hw⟩;obtain rfl:=hw.symm;have hsi:=sizeF_in t.ns;have R0:=R.cell 0 rfl;have R1:=R.cell 1 rfl;have Rf0:=R.frozen 0;have Rf1:=R.frozen 1;by_cases hc:(sizeF t.ns).2=0∧(t.kids.length:Int)=max (sizeF t.ns).1 1
 case neg=>
  have HE:Hid (measF (L+1) t=none):=by unfold Hid;rw [measF,if_neg hc]
  generalize (sizeF t.ns).2=E at *;generalize (sizeF t.ns).1=N at *;by_cases he:E=0
  · have d1:(E != 0)=false:=by rw [bne_eq_false_iff_eq];exact he
    have d2:((t.kids.length:Int) != max N 1)=true:=by rw [bne_iff_ne];exact fun h=>hc ⟨he,h⟩
    clear he hc;go_wp2
    have Rd2:=R.set2 (.int .i64 0) (.int .i64 0);have r0:=Rd2.cell 0 rfl;have r1:=Rd2.cell 1 rfl;refine bodyPost_ret (v:=.tuple #[.agg #[.int .i64 0,.int .i64 0],.bool false]) (by simp [results,Tryz.results76,go_sem,r0,r1]) rfl ?_;exact ⟨by rw [HE.out];rfl,Below.set2 g (by omega) _ _⟩
  · have d1:(E != 0)=true:=by rw [bne_iff_ne];exact he
    clear he hc;go_wp2
    have Rd2:=R.set2 (.int .i64 0) (.int .i64 0);have r0:=Rd2.cell 0 rfl;have r1:=Rd2.cell 1 rfl;refine bodyPost_ret (v:=.tuple #[.agg #[.int .i64 0,.int .i64 0],.bool false]) (by simp [results,Tryz.results76,go_sem,r0,r1]) rfl ?_;exact ⟨by rw [HE.out];rfl,Below.set2 g (by omega) _ _⟩
 case pos=>
  have HE:Hid (measF (L+1) t=finM t (measL (measI (measF L)) t.kids (1,(t.kids.length:Int)))):=measF_succ hc;have HIN:Hid (∀ s,inL L (measI (measF L) s)):=fun s=>measI_in (measF_in L) s;have hlen:t.kids.length≤4096:=by have:=hc.2;omega
  have d1:((sizeF t.ns).2 != 0)=false:=by rw [bne_eq_false_iff_eq];exact hc.1
  have d2:((t.kids.length:Int) != max (sizeF t.ns).1 1)=false:=by rw [bne_eq_false_iff_eq];exact hc.2
  have d3:decide (((L+1:Nat):Int)<1)=false:=by simp;omega
  clear hc;generalize (sizeF t.ns).2=E at *;generalize (sizeF t.ns).1=N at *;have Wh0:=boxA_new v #[.int .i64 1,.int .i64 (t.kids.length:Int)] 132;have kwh:=below_alloc v (.cells #[.int .i64 1,.int .i64 (t.kids.length:Int)] 132);have swh:v.heap.size<(v.alloc (.cells #[.int .i64 1,.int .i64 (t.kids.length:Int)] 132)).heap.size:=by simp
  rw [sv] at Wh0;go_wp2
  generalize hA:v.alloc (.cells #[.int .i64 1,.int .i64 (t.kids.length:Int)] 132)=w0 at *;clear hA R0 R1 Rf0 Rf1 z0 z1 d1 d2 d3 hsi
  go_loopw [41] (fun iv wr=>∃ (i:Nat) (d c:Int),iv=.int .i64 i∧i≤t.kids.length∧1≤d∧d≤1001∧0≤c∧c≤16384∧Hid (measL (measI (measF L)) t.kids (1,(t.kids.length:Int))=measL (measI (measF L)) (t.kids.drop i) (d,c))∧BoxA wr (W.heap.size+1+1) 132 #[.int .i64 d,.int .i64 c]∧Below v.heap.size v wr∧v.heap.size<wr.heap.size) (fun iv _=>t.kids.length - (intOf iv).toNat)
  case atStart=>exact ⟨0,1,t.kids.length,rfl,Nat.zero_le _,by omega,by omega,by omega,by omega,rfl,Wh0,kwh,swh⟩
  case round=>
   obtain ⟨i,d,c,rfl,hil,hd1,hd2,hc1,hc2,HL,Wh,hb,hsz⟩:=hrel;have gr:Below W.heap.size W wr:=g.trans (hb.mono (by omega));by_cases hlt:i<t.kids.length
   · obtain ⟨gx,ox,rfl,hgx,hcx⟩:=H.out.2.ptr (by omega)
     obtain ⟨a1,c1,a2,c2,a3,c3,⟨e0,e1,e2,e3,e4,e5⟩,hp⟩:=hcx i hlt;have E0:=(gr.cell (p:=⟨gx,ox+i*6,none⟩) (HD.out gx hgx)).trans e0;have E1:=(gr.cell (p:=⟨gx,ox+i*6+1,none⟩) (HD.out gx hgx)).trans e1;have E2:=(gr.cell (p:=⟨gx,ox+i*6+2,none⟩) (HD.out gx hgx)).trans e2;have E3:=(gr.cell (p:=⟨gx,ox+i*6+3,none⟩) (HD.out gx hgx)).trans e3;have E4:=(gr.cell (p:=⟨gx,ox+i*6+4,none⟩) (HD.out gx hgx)).trans e4;have E5:=(gr.cell (p:=⟨gx,ox+i*6+5,none⟩) (HD.out gx hgx)).trans e5;have HS:=measL_step (I:=measI (measF L)) hlt (d,c);rw [← HL.out] at HS;have hin:=HIN.out (t.kids.getD i tr0);have HST:Hid (measL (measI (measF L)) t.kids (1,(t.kids.length:Int))=match measI (measF L) (t.kids.getD i tr0) with
         | none=>none
         | some p=>if 16384<c+p.2 then none else measL (measI (measF L)) (t.kids.drop (i+1)) (max d (1+p.1),c+p.2)):=HS
     clear HS HL hcx e0 e1 e2 e3 e4 e5;generalize t.kids.getD i tr0=T at *;have NX:=boxA_new wr #[.int .u8 T.k,.bool T.b,.slice a1 T.ns.length c1,.slice a2 T.ds.length c2,.int .i32 T.c,.slice a3 T.kids.length c3] 113;have kx:=below_alloc wr (.cells #[.int .u8 T.k,.bool T.b,.slice a1 T.ns.length c1,.slice a2 T.ds.length c2,.int .i32 T.c,.slice a3 T.kids.length c3] 113);have sx:wr.heap.size<(wr.alloc (.cells #[.int .u8 T.k,.bool T.b,.slice a1 T.ns.length c1,.slice a2 T.ds.length c2,.int .i32 T.c,.slice a3 T.kids.length c3] 113)).heap.size:=by simp
     have m0:=NX.cell 0 rfl;have m1:=NX.cell 1 rfl;have m2:=NX.cell 2 rfl;have m3:=NX.cell 3 rfl;have m4:=NX.cell 4 rfl;have m5:=NX.cell 5 rfl;have hlv:((L:Int)+1 - 1)=(L:Int):=by omega
     go_wp2_with fail
     have hDx:∀ g,D g→g<(wr.alloc (.cells #[.int .u8 T.k,.bool T.b,.slice a1 T.ns.length c1,.slice a2 T.ds.length c2,.int .i32 T.c,.slice a3 T.kids.length c3] 113)).heap.size:=fun g hg=>by have:=HD.out g hg;omega
     have gx2:Below W.heap.size W (wr.alloc (.cells #[.int .u8 T.k,.bool T.b,.slice a1 T.ns.length c1,.slice a2 T.ds.length c2,.int .i32 T.c,.slice a3 T.kids.length c3] 113)):=gr.trans (kx.mono (by omega));have hit:=hp.agree (Agree.of gx2 HD.out);have Whx:=Wh.below kx (by omega);have hbx:Below v.heap.size v _:=hb.trans (kx.mono (by omega));generalize hA:wr.alloc (.cells #[.int .u8 T.k,.bool T.b,.slice a1 T.ns.length c1,.slice a2 T.ds.length c2,.int .i32 T.c,.slice a3 T.kids.length c3] 113)=wx at *;clear hA m0 m1 m2 m3 m4 m5 NX E0 E1 E2 E3 E4 E5 hp;refine (measuredItem_all HM.out hit hDx).mono ?_;rintro e wy ⟨rfl,ky⟩;clear hit hDx;have sy:=ky.size;have Why:=Whx.below ky (by omega);have hby:Below v.heap.size v wy:=hbx.trans (ky.mono (by omega))
     cases ho:measI (measF L) T with
     | none=>
      have HN:Hid (measF (L+1) t=none):=by unfold Hid;rw [HE.out,HST.out,ho];rfl
      clear ho HST hin;unfold mEnd;dsimp only [Option.getD_none,Option.isSome_none];have kp:=below_alloc wy (.cells #[.int .i64 0,.int .i64 0] 132);have P:=boxA_new wy #[.int .i64 0,.int .i64 0] 132;have Whp:=Why.below kp (by omega);have n1:wy.heap.size≠W.heap.size+1+1:=by omega
      have n2:W.heap.size+1+1≠wy.heap.size:=by omega
      have p0:=P.cell 0 rfl;have p1:=P.cell 1 rfl;have f0:=Whp.cell 0 rfl;have f1:=Whp.cell 1 rfl;have ff0:=Whp.frozen 0;have ff1:=Whp.frozen 1;have Rp:=(R.below hby (by omega)).below kp (by omega);have r0:=Rp.cell 0 rfl;have r1:=Rp.cell 1 rfl;have rf0:=Rp.frozen 0;have rf1:=Rp.frozen 1;go_wp2
      have RR:=((Rp.other (p:=⟨W.heap.size+1+1,0,none⟩) (show W.heap.size+1+1≠W.heap.size+1 by omega) (.int .i64 (max d 1))).other (p:=⟨W.heap.size+1+1,1,none⟩) (show W.heap.size+1+1≠W.heap.size+1 by omega) (.int .i64 (c))).set2 (.int .i64 0) (.int .i64 0);have s0:=RR.cell 0 rfl;have s1:=RR.cell 1 rfl;refine bodyPost_ret (v:=.tuple #[.agg #[.int .i64 0,.int .i64 0],.bool false]) (by simp [results,Tryz.results76,go_sem,s0,s1]) rfl ?_;exact ⟨by rw [HN.out];rfl,Below.set2 (((g.trans ((hby.trans (kp.mono (by omega))).mono (by omega))).setCell (p:=⟨W.heap.size+1+1,0,none⟩) (show W.heap.size≤W.heap.size+1+1 by omega) _).setCell (p:=⟨W.heap.size+1+1,1,none⟩) (show W.heap.size≤W.heap.size+1+1 by omega) _) (by omega) _ _⟩
     | some q=>
      have hq:=hin q ho;obtain ⟨q1,q2⟩:=q;simp only at hq;unfold mEnd;dsimp only [Option.getD_some,Option.isSome_some];have kp:=below_alloc wy (.cells #[.int .i64 q1,.int .i64 q2] 132);have P:=boxA_new wy #[.int .i64 q1,.int .i64 q2] 132;have sp:wy.heap.size<(wy.alloc (.cells #[.int .i64 q1,.int .i64 q2] 132)).heap.size:=by simp
      have Whp:=Why.below kp (by omega);have n1:wy.heap.size≠W.heap.size+1+1:=by omega
      have n2:W.heap.size+1+1≠wy.heap.size:=by omega
      have p0:=P.cell 0 rfl;have p1:=P.cell 1 rfl;have f0:=Whp.cell 0 rfl;have f1:=Whp.cell 1 rfl;have ff0:=Whp.frozen 0;have ff1:=Whp.frozen 1;have Rp:=(R.below hby (by omega)).below kp (by omega);have r0:=Rp.cell 0 rfl;have r1:=Rp.cell 1 rfl;have rf0:=Rp.frozen 0;have rf1:=Rp.frozen 1;by_cases hbig:16384<c+q2
      · have HN:Hid (measF (L+1) t=none):=by unfold Hid;rw [HE.out,HST.out,ho];simp only;rw [if_pos hbig];rfl
        clear ho HST hin;go_wp2
        have RR:=((Rp.other (p:=⟨W.heap.size+1+1,0,none⟩) (show W.heap.size+1+1≠W.heap.size+1 by omega) (.int .i64 (max d (1+q1)))).other (p:=⟨W.heap.size+1+1,1,none⟩) (show W.heap.size+1+1≠W.heap.size+1 by omega) (.int .i64 (c+q2))).set2 (.int .i64 0) (.int .i64 0);have s0:=RR.cell 0 rfl;have s1:=RR.cell 1 rfl;refine bodyPost_ret (v:=.tuple #[.agg #[.int .i64 0,.int .i64 0],.bool false]) (by simp [results,Tryz.results76,go_sem,s0,s1]) rfl ?_;exact ⟨by rw [HN.out];rfl,Below.set2 (((g.trans ((hby.trans (kp.mono (by omega))).mono (by omega))).setCell (p:=⟨W.heap.size+1+1,0,none⟩) (show W.heap.size≤W.heap.size+1+1 by omega) _).setCell (p:=⟨W.heap.size+1+1,1,none⟩) (show W.heap.size≤W.heap.size+1+1 by omega) _) (by omega) _ _⟩
      · have HN:Hid (measL (measI (measF L)) t.kids (1,(t.kids.length:Int))=measL (measI (measF L)) (t.kids.drop (i+1)) (max d (1+q1),c+q2)):=by unfold Hid;rw [HST.out,ho];simp only;rw [if_neg hbig]
        clear ho HST hin;go_wp2
        go_roundw
        case rel=>
         have WW:=Whp.set2 (.int .i64 (max d (1+q1))) (.int .i64 (c+q2));exact ⟨i+1,max d (1+q1),c+q2,by go_num,by omega,by omega,by omega,by omega,by omega,HN,WW,((hby.trans (kp.mono (by omega))).setCell (p:=⟨W.heap.size+1+1,0,none⟩) (show v.heap.size≤W.heap.size+1+1 by omega) _).setCell (p:=⟨W.heap.size+1+1,1,none⟩) (show v.heap.size≤W.heap.size+1+1 by omega) _,by simp [World.setCell];omega⟩
        case measure=>simp [intOf];omega
   · have HF:Hid (measF (L+1) t=some (if simpB t=true then 0 else d,c)):=by
      unfold Hid;rw [HE.out,HL.out,measL_end (by omega)];rfl
     have Xr:=X.below hb (by omega);have x0:=Xr.cell 0 rfl;have x1':=Xr.cell 1 rfl
     go_wp2_with fail
     refine (isSimpleT_any (H.out.agree (Agree.of gr HD.out)) (fun g hg=>by have:=HD.out g hg;omega)).mono ?_;rintro e ws ⟨rfl,hws⟩;have ks:=below_alloc wr (.cells #[.slice x1 t.ns.length y1,.slice x2 t.kids.length y2] 29);rw [← hws] at ks;clear hws x0 x1';have ss:=ks.size;have Whs:=Wh.below ks (by omega);have hbs:Below v.heap.size v ws:=hb.trans (ks.mono (by omega));have Rs:=R.below hbs (by omega);have f0:=Whs.cell 0 rfl;have f1:=Whs.cell 1 rfl;have ff0:=Whs.frozen 0;have ff1:=Whs.frozen 1;have r0:=Rs.cell 0 rfl;have r1:=Rs.cell 1 rfl;have rf0:=Rs.frozen 0;have rf1:=Rs.frozen 1;have n1:W.heap.size+1≠W.heap.size+1+1:=by omega
     have n2:W.heap.size+1+1≠W.heap.size+1:=by omega
     cases hs:simpB t with
     | true=>
      have HF2:Hid (measF (L+1) t=some (0,c)):=by unfold Hid;rw [HF.out,hs];rfl
      clear hs HF;go_wp2
      have RR:=(Rs.other (p:=⟨W.heap.size+1+1,0,none⟩) (show W.heap.size+1+1≠W.heap.size+1 by omega) (.int .i64 0)).set2 (.int .i64 0) (.int .i64 c);have s0:=RR.cell 0 rfl;have s1:=RR.cell 1 rfl;refine bodyPost_ret (v:=.tuple #[.agg #[.int .i64 0,.int .i64 c],.bool true]) (by simp [results,Tryz.results76,go_sem,s0,s1]) rfl ?_;exact ⟨by rw [HF2.out];rfl,Below.set2 ((g.trans (hbs.mono (by omega))).setCell (p:=⟨W.heap.size+1+1,0,none⟩) (show W.heap.size≤W.heap.size+1+1 by omega) _) (by omega) _ _⟩
     | false=>
      have HF2:Hid (measF (L+1) t=some (d,c)):=by unfold Hid;rw [HF.out,hs];rfl
      clear hs HF;go_wp2
      have RR:=Rs.set2 (.int .i64 d) (.int .i64 c);have s0:=RR.cell 0 rfl;have s1:=RR.cell 1 rfl;refine bodyPost_ret (v:=.tuple #[.agg #[.int .i64 d,.int .i64 c],.bool true]) (by simp [results,Tryz.results76,go_sem,s0,s1]) rfl ?_;exact ⟨by rw [HF2.out];rfl,Below.set2 (g.trans (hbs.mono (by omega))) (by omega) _ _⟩
section
variable {ch:Int} {a3:Option Addr} {n3 c3:Nat} {w:World} {b:Bool} {a1 a2:Option Addr} {c1 c2:Nat} {ns ds:List Int}
theorem copyOf_numG (h1:Rd w.heap.size w (.slice a1 ns.length c1) ns) (h2:Rd w.heap.size w (.slice a2 ds.length c2) ds) (l1:ns.length*4≤140737488355328) (l2:ds.length*4≤140737488355328) :
    Calls Tryz.prog 152 #[.agg #[.int .u8 1,.bool b,.slice a1 ns.length c1,.slice a2 ds.length c2,.int .i32 ch,.slice a3 n3 c3]] w fun e w'=>∃ x1 y1 x2 y2,e=.returned (.agg #[.int .u8 1,.bool b,.slice x1 ns.length y1,.slice x2 ds.length y2,.int .i32 0,.slice none 0 0])∧Own w.heap.size w' (.slice x1 ns.length y1) ns∧Own w.heap.size w' (.slice x2 ds.length y2) ds∧Below w.heap.size w w':=by
 have X0:=boxA_new w #[.int .u8 1,.bool b,.slice a1 ns.length c1,.slice a2 ds.length c2,.int .i32 ch,.slice a3 n3 c3] 113;have k0:=below_alloc w (.cells #[.int .u8 1,.bool b,.slice a1 ns.length c1,.slice a2 ds.length c2,.int .i32 ch,.slice a3 n3 c3] 113);have k1:=below_alloc (w.alloc (.cells #[.int .u8 1,.bool b,.slice a1 ns.length c1,.slice a2 ds.length c2,.int .i32 ch,.slice a3 n3 c3] 113)) (.cells #[.int .u8 0,.bool false,.slice none 0 0,.slice none 0 0,.int .i32 0,.slice none 0 0] 113);have R:=boxA_new (w.alloc (.cells #[.int .u8 1,.bool b,.slice a1 ns.length c1,.slice a2 ds.length c2,.int .i32 ch,.slice a3 n3 c3] 113)) #[.int .u8 0,.bool false,.slice none 0 0,.slice none 0 0,.int .i32 0,.slice none 0 0] 113;rw [World.size_alloc] at R;have X:=X0.below k1 (by simp);have g:Below w.heap.size w _:=k0.trans (k1.mono (by simp));have sv:((w.alloc (.cells #[.int .u8 1,.bool b,.slice a1 ns.length c1,.slice a2 ds.length c2,.int .i32 ch,.slice a3 n3 c3] 113)).alloc (.cells #[.int .u8 0,.bool false,.slice none 0 0,.slice none 0 0,.int .i32 0,.slice none 0 0] 113)).heap.size=w.heap.size+1+1:=by simp
 replace h1:=h1.below g;replace h2:=h2.below g;have X0':=X.cell 0 rfl;have X1:=X.cell 1 rfl;have X2:=X.cell 2 rfl;have X3:=X.cell 3 rfl;go_enter Tryz.func152,Tryz.ntmps152
 go_upto_region 6 with fail
 generalize hA:(w.alloc (.cells #[.int .u8 1,.bool b,.slice a1 ns.length c1,.slice a2 ds.length c2,.int .i32 ch,.slice a3 n3 c3] 113)).alloc (.cells #[.int .u8 0,.bool false,.slice none 0 0,.slice none 0 0,.int .i32 0,.slice none 0 0] 113)=v at *;clear hA k0 k1 X0;have hcells:∀ {w':World},Below v.heap.size v w'→w'.cell? ⟨w.heap.size,1,none⟩=some (.bool b)∧w'.cell? ⟨w.heap.size,2,none⟩=some (.slice a1 ns.length c1)∧w'.cell? ⟨w.heap.size,3,none⟩=some (.slice a2 ds.length c2):=fun hb=>by
  exact ⟨(X.below hb (by omega)).cell 1 rfl,(X.below hb (by omega)).cell 2 rfl,(X.below hb (by omega)).cell 3 rfl⟩
 have d0:Below v.heap.size v v.drew:=⟨rfl,rfl,rfl,Nat.le_refl _,fun _ _=>rfl⟩;have h1':Rd v.drew.heap.size v.drew (.slice a1 ns.length c1) ns:=h1.mono (by simp;omega);have h2':Rd v.heap.size v (.slice a2 ds.length c2) ds:=h2.mono (by omega)
 go_region_held3 (fun w'=>w'.cell? ⟨w.heap.size,1,none⟩=some (.bool b)∧w'.cell? ⟨w.heap.size,2,none⟩=some (.slice a1 ns.length c1)∧w'.cell? ⟨w.heap.size,3,none⟩=some (.slice a2 ds.length c2))
  (first | (go_keep;done) | exact tw | exact tw2 | exact tw3)
  (first
   | (have j:=tw2;go_at_call 61;refine number_any.mono ?_;rintro e wc ⟨rfl,kc⟩;have tc:Below v.heap.size v wc:=tb.trans (kc.mono tb.size);have tw3:=hcells tc;have Rc:=R.below tc (by omega);have q0:=Rc.cell 0 rfl;have q1:=Rc.cell 1 rfl;have q2:=Rc.cell 2 rfl;have q3:=Rc.cell 3 rfl;have q4:=Rc.cell 4 rfl;have q5:=Rc.cell 5 rfl;have p0:=Rc.frozen 0;have p1:=Rc.frozen 1;have p2:=Rc.frozen 2;have p3:=Rc.frozen 3;have p4:=Rc.frozen 4;have p5:=Rc.frozen 5)
   | (have j:=tw;go_at_call 179;refine (copyLimbs_any ((h2'.below ka).mono ka.size) l2).mono ?_;rintro e wb ⟨x2,y2,rfl,o2,kb⟩;have tb:Below v.heap.size v wb:=ka.trans (kb.mono ka.size);have tw2:=hcells tb;have o1b:=o1.below kb (Nat.le_refl _))
   | (go_at_call 179;refine (copyLimbs_any h1' l1).mono ?_;rintro e wa ⟨x1,y1,rfl,o1,ka'⟩;have ka:Below v.heap.size v wa:=d0.trans (ka'.mono d0.size);have tw:=hcells ka))
 all_goals
  go_wp2
  have Rd6:=Rc.set6 (.int .u8 1) (.bool b) (.slice x1 ns.length y1) (.slice x2 ds.length y2) (.int .i32 0) (.slice none 0 0);obtain ⟨r0,r1,r2,r3,r4,r5⟩:=Rd6.num;refine bodyPost_ret (v:=.agg #[.int .u8 1,.bool b,.slice x1 ns.length y1,.slice x2 ds.length y2,.int .i32 0,.slice none 0 0]) (by simp [results,Tryz.results152,go_sem,r0,r1,r2,r3,r4,r5]) rfl ?_;refine ⟨x1,y1,x2,y2,rfl,?_,?_,Below.set6 (g.trans (tc.mono (by omega))) (by omega) _ _ _ _ _ _⟩
  · exact (((o1b.below kc (Nat.le_refl _)).mono (base':=v.heap.size) (by simp)).set6 (by omega) _ _ _ _ _ _).mono (by omega)
  · exact (((o2.below kc (Nat.le_refl _)).mono (base':=v.heap.size) ka.size).set6 (by omega) _ _ _ _ _ _).mono (by omega)
end
theorem character3_any (c:Int) (w:World):Calls Tryz.prog 178 #[.int .i32 c] w fun e w'=>e=.returned (.agg #[.int .u8 2,.bool false,.slice none 0 0,.slice none 0 0,.int .i32 c,.slice none 0 0])∧w'=w.alloc (.cells #[.int .u8 2,.bool false,.slice none 0 0,.slice none 0 0,.int .i32 c,.slice none 0 0] 113):=by
 have R:=boxA_new w #[.int .u8 2,.bool false,.slice none 0 0,.slice none 0 0,.int .i32 c,.slice none 0 0] 113;go_enter Tryz.func178,Tryz.ntmps178;go_wp2
 have r0:=R.cell 0 rfl;have r1:=R.cell 1 rfl;have r2:=R.cell 2 rfl;have r3:=R.cell 3 rfl;have r4:=R.cell 4 rfl;have r5:=R.cell 5 rfl;refine bodyPost_ret (v:=.agg #[.int .u8 2,.bool false,.slice none 0 0,.slice none 0 0,.int .i32 c,.slice none 0 0]) (by simp [results,Tryz.results178,go_sem,r0,r1,r2,r3,r4,r5]) rfl ?_;exact ⟨rfl,rfl⟩
section
variable {ch:Int} {a1 a2 a3:Option Addr} {n1 n2 n3 c1 c2 c3:Nat} {w:World} {b:Bool}
theorem copyOf_ch:Calls Tryz.prog 152 #[.agg #[.int .u8 2,.bool b,.slice a1 n1 c1,.slice a2 n2 c2,.int .i32 ch,.slice a3 n3 c3]] w fun e w'=>e=.returned (.agg #[.int .u8 2,.bool false,.slice none 0 0,.slice none 0 0,.int .i32 ch,.slice none 0 0])∧Below w.heap.size w w':=by
 have X0:=boxA_new w #[.int .u8 2,.bool b,.slice a1 n1 c1,.slice a2 n2 c2,.int .i32 ch,.slice a3 n3 c3] 113;have k0:=below_alloc w (.cells #[.int .u8 2,.bool b,.slice a1 n1 c1,.slice a2 n2 c2,.int .i32 ch,.slice a3 n3 c3] 113);have k1:=below_alloc (w.alloc (.cells #[.int .u8 2,.bool b,.slice a1 n1 c1,.slice a2 n2 c2,.int .i32 ch,.slice a3 n3 c3] 113)) (.cells #[.int .u8 0,.bool false,.slice none 0 0,.slice none 0 0,.int .i32 0,.slice none 0 0] 113);have R:=boxA_new (w.alloc (.cells #[.int .u8 2,.bool b,.slice a1 n1 c1,.slice a2 n2 c2,.int .i32 ch,.slice a3 n3 c3] 113)) #[.int .u8 0,.bool false,.slice none 0 0,.slice none 0 0,.int .i32 0,.slice none 0 0] 113;rw [World.size_alloc] at R;have X:=X0.below k1 (by simp);have g:Below w.heap.size w _:=k0.trans (k1.mono (by simp));have sv:((w.alloc (.cells #[.int .u8 2,.bool b,.slice a1 n1 c1,.slice a2 n2 c2,.int .i32 ch,.slice a3 n3 c3] 113)).alloc (.cells #[.int .u8 0,.bool false,.slice none 0 0,.slice none 0 0,.int .i32 0,.slice none 0 0] 113)).heap.size=w.heap.size+1+1:=by simp
 have X0':=X.cell 0 rfl;have X4:=X.cell 4 rfl;go_enter Tryz.func152,Tryz.ntmps152
 go_wp2_with fail
 generalize hA:(w.alloc (.cells #[.int .u8 2,.bool b,.slice a1 n1 c1,.slice a2 n2 c2,.int .i32 ch,.slice a3 n3 c3] 113)).alloc (.cells #[.int .u8 0,.bool false,.slice none 0 0,.slice none 0 0,.int .i32 0,.slice none 0 0] 113)=v at *;clear hA k0 k1 X0;refine (character3_any ch _).mono ?_;rintro e w1 ⟨rfl,hw⟩;have kx:=below_alloc v (.cells #[.int .u8 2,.bool false,.slice none 0 0,.slice none 0 0,.int .i32 ch,.slice none 0 0] 113);rw [← hw] at kx;clear hw;have Rc:=R.below kx (by omega);have q0:=Rc.cell 0 rfl;have q1:=Rc.cell 1 rfl;have q2:=Rc.cell 2 rfl;have q3:=Rc.cell 3 rfl;have q4:=Rc.cell 4 rfl;have q5:=Rc.cell 5 rfl;have p0:=Rc.frozen 0;have p1:=Rc.frozen 1;have p2:=Rc.frozen 2;have p3:=Rc.frozen 3;have p4:=Rc.frozen 4;have p5:=Rc.frozen 5;go_wp2
 have Rd6:=Rc.set6 (.int .u8 2) (.bool false) (.slice none 0 0) (.slice none 0 0) (.int .i32 ch) (.slice none 0 0);have r0:=Rd6.cell 0 rfl;have r1:=Rd6.cell 1 rfl;have r2:=Rd6.cell 2 rfl;have r3:=Rd6.cell 3 rfl;have r4:=Rd6.cell 4 rfl;have r5:=Rd6.cell 5 rfl
 try simp only [Exit.inBlock,Exit.then]
 refine bodyPost_ret (v:=.agg #[.int .u8 2,.bool false,.slice none 0 0,.slice none 0 0,.int .i32 ch,.slice none 0 0]) ?_ rfl ?_
 · simp [results,Tryz.results152,go_sem,r0,r1,r2,r3,r4,r5]
 exact ⟨rfl,Below.set6 (g.trans (kx.mono (by omega))) (by omega) _ _ _ _ _ _⟩
end
theorem measI_cases {M:Tr→Option (Int×Int)} (h:(measI M t).isSome=true):(t.k=1∧RightP t.b t.ns t.ds∧t.c=0∧t.kids.length=0)∨(t.k=2∧okR t.c∧noneB t=true∧t.kids.length=0)∨(t.k=3∧noneB t=true∧t.c=0∧t.kids.length=1∧simpB (t.kids.getD 0 tr0)=false∧(M (t.kids.getD 0 tr0)).isSome=true):=by
 by_cases h1:t.k=1
 · by_cases hg:RightP t.b t.ns t.ds∧t.c=0∧t.kids.length=0
   · exact Or.inl ⟨h1,hg⟩
   · rw [measI_num_no h1 hg] at h;cases h
 by_cases h2:t.k=2
 · by_cases hg:okR t.c∧noneB t=true∧t.kids.length=0
   · exact Or.inr (Or.inl ⟨h2,hg⟩)
   · rw [measI_ch_no h2 hg] at h;cases h
 by_cases h3:t.k=3
 · by_cases hg:noneB t=true∧t.c=0∧t.kids.length=1∧simpB (t.kids.getD 0 tr0)=false
   · rw [measI_box h3 hg] at h
     exact Or.inr (Or.inr ⟨h3,hg.1,hg.2.1,hg.2.2.1,hg.2.2.2,h⟩)
   · rw [measI_box_no h3 hg] at h;cases h
 rw [measI_else h1 h2 h3] at h;cases h
theorem noneB_is (h:noneB t=true):t.b=false∧t.ns.length=0∧t.ds.length=0:=by
 unfold noneB at h;simp only [Bool.and_eq_true,Bool.not_eq_true',decide_eq_true_eq] at h;exact ⟨h.1.1,h.1.2,h.2⟩
theorem measL_all:∀ (l:List Tr) (w p:Int×Int),measL I l w=some p→∀ x∈l,(I x).isSome=true
 | [],_,_,_,_,hx=>by cases hx
 | t :: r,w,p,h,x,hx=>by
  rw [measL] at h
  cases hi:I t with
  | none=>rw [hi] at h;simp at h
  | some q=>
   rw [hi] at h;by_cases hc:16384<w.2+q.2
   · simp only [hc,if_true] at h;cases h
   · simp only [hc,if_false] at h
     rcases List.mem_cons.1 hx with rfl | hx
     · rw [hi];rfl
     · exact measL_all r _ p h x hx
theorem size_rank {sh:List Int} (h:(sizeF sh).2=0):sh.length≤8:=by
 unfold sizeF at h;by_cases h8:8<sh.length
 · rw [if_pos h8] at h;cases h
 · omega
theorem measF_some (h:(measF L t).isSome=true):∃ L',L=L'+1∧t.ns.length≤8∧(sizeF t.ns).2=0∧(t.kids.length:Int)=max (sizeF t.ns).1 1∧t.kids.length≤4096∧∀ x∈t.kids,(measI (measF L') x).isSome=true:=by
 cases L with
 | zero=>rw [measF] at h;cases h
 | succ L=>
  refine ⟨L,rfl,?_⟩;by_cases hc:(sizeF t.ns).2=0∧(t.kids.length:Int)=max (sizeF t.ns).1 1
  · rw [measF_succ hc] at h
    have hin:=sizeF_in t.ns;refine ⟨size_rank hc.1,hc.1,hc.2,by have:=hc.2;omega,?_⟩
    cases hm:measL (measI (measF L)) t.kids (1,(t.kids.length:Int)) with
    | none=>rw [hm] at h;unfold finM at h;cases h
    | some p=>exact measL_all _ _ p hm
  · rw [measF,if_neg hc] at h;cases h
theorem getD_memI {j:Nat} (h:j<l.length):l.getD j tr0∈l:=by
 rw [List.getD_eq_getElem?_getD,List.getElem?_eq_getElem h];exact List.getElem_mem h
theorem itv_none {P:Value→Value→Tr→Prop} (h1:t.ns.length=0) (h2:t.ds.length=0) (h3:t.kids.length=0):ItV P D w none 0 none 0 none 0 t:=by
 have e1:t.ns=[]:=List.eq_nil_of_length_eq_zero h1;have e2:t.ds=[]:=List.eq_nil_of_length_eq_zero h2;refine ⟨?_,?_,?_⟩
 · rw [e1];exact ⟨lim_nil,none,0,rfl,Nat.le_refl _,by omega,fun _=>rfl,Or.inl rfl⟩
 · rw [e2];exact ⟨lim_nil,none,0,rfl,Nat.le_refl _,by omega,fun _=>rfl,Or.inl rfl⟩
 · rw [h3];exact ⟨none,0,rfl,Nat.le_refl _,by omega,fun _=>rfl,Or.inl rfl⟩
theorem isIt_num {x1 x2:Option Addr} {y1 y2:Nat} (hk:t.k=1) (hc:t.c=0) (h3:t.kids.length=0) (o1:Own B w (.slice x1 t.ns.length y1) t.ns) (o2:Own B w (.slice x2 t.ds.length y2) t.ds):IsIt f (Fr B w.heap.size) w ⟨1,t.b,x1,t.ns.length,y1,x2,t.ds.length,y2,0,none,0,0⟩ t:=
 ⟨hk.symm,rfl,rfl,rfl,hc.symm,h3.symm,RdL.of_own o1,RdL.of_own o2,by show RowB _ _ (.slice none t.kids.length 0) _;rw [h3];exact ⟨none,0,rfl,Nat.le_refl _,by omega,fun _=>rfl,Or.inl rfl⟩⟩
theorem isIt_ch (hk:t.k=2) (hb:t.b=false) (h1:t.ns.length=0) (h2:t.ds.length=0) (h3:t.kids.length=0):IsIt f D w ⟨2,false,none,0,0,none,0,0,t.c,none,0,0⟩ t:=
 ⟨hk.symm,hb.symm,h1.symm,h2.symm,rfl,h3.symm,itv_none h1 h2 h3⟩
theorem isIt_box {k:Nat} {a:Tr} {z1 z2:Option Addr} {m1 u1 m2 u2:Nat} (hk:t.k=3) (hb:t.b=false) (h1:t.ns.length=0) (h2:t.ds.length=0) (hc:t.c=0) (h3:t.kids.length=1) (ha:t.kids.getD 0 tr0=a) (hkB:B≤k) (hB:BoxA w' k 29 #[.slice z1 m1 u1,.slice z2 m2 u2]) (h:ArV f (Fr B w.heap.size) w (.slice z1 m1 u1) (.slice z2 m2 u2) a) (kb:Below w.heap.size w w'):IsIt f (Fr B w'.heap.size) w' ⟨3,false,none,0,0,none,0,0,0,some ⟨k,0,none⟩,1,1⟩ t:=by
 have e1:t.ns=[]:=List.eq_nil_of_length_eq_zero h1;have e2:t.ds=[]:=List.eq_nil_of_length_eq_zero h2;refine ⟨hk.symm,hb.symm,h1.symm,h2.symm,hc.symm,h3.symm,?_,?_,?_⟩
 · rw [e1];exact ⟨lim_nil,none,0,rfl,Nat.le_refl _,by omega,fun _=>rfl,Or.inl rfl⟩
 · rw [e2];exact ⟨lim_nil,none,0,rfl,Nat.le_refl _,by omega,fun _=>rfl,Or.inl rfl⟩
 · show RowB _ _ (.slice (some ⟨k,0,none⟩) t.kids.length 1) _
   rw [h3];refine ⟨_,1,rfl,Nat.le_refl _,by omega,(fun h=>by cases h),Or.inr ⟨k,0,rfl,⟨hkB,hB.lt⟩,fun j hj => ?_⟩⟩;obtain rfl:j=0:=by omega
   refine ⟨z1,m1,u1,z2,m2,u2,hB.cell 0 rfl,hB.cell 1 rfl,?_⟩;rw [ha];exact ArV.imp (fun g hg=>⟨hg.1,by have:=kb.size;have:=hg.2;omega⟩) (fun g hg=>kb.block g hg.2) f f _ _ _ (Nat.le_refl _) h
theorem boxA_o6 {k ty:Nat} {xs:Array Value} (h:BoxA w k ty xs) (hp:B≠k) (v0 v1 v2 v3 v4 v5:Value):BoxA ((((((w.setCell ⟨B,0,none⟩ v0).setCell ⟨B,1,none⟩ v1).setCell ⟨B,2,none⟩ v2).setCell ⟨B,3,none⟩ v3).setCell ⟨B,4,none⟩ v4).setCell ⟨B,5,none⟩ v5) k ty xs:=by
 unfold BoxA at h ⊢;rw [set6_other hp];exact h
theorem below_both1 {n:Nat} (h:Below n w w') (p:Addr) (v:Value):Below n (w.setCell p v) (w'.setCell p v):=
 ⟨h.os,h.tape,h.output,by rw [set1_size,set1_size];exact h.size,fun g hg=>by
  have:=h.block g hg;simp only [World.setCell,Array.getElem?_modify]
  split <;> simp [this]⟩
theorem below_both6 (h:Below w.heap.size w w') (v0 v1 v2 v3 v4 v5:Value):Below ((((((w.setCell ⟨B,0,none⟩ v0).setCell ⟨B,1,none⟩ v1).setCell ⟨B,2,none⟩ v2).setCell ⟨B,3,none⟩ v3).setCell ⟨B,4,none⟩ v4).setCell ⟨B,5,none⟩ v5).heap.size ((((((w.setCell ⟨B,0,none⟩ v0).setCell ⟨B,1,none⟩ v1).setCell ⟨B,2,none⟩ v2).setCell ⟨B,3,none⟩ v3).setCell ⟨B,4,none⟩ v4).setCell ⟨B,5,none⟩ v5) ((((((w'.setCell ⟨B,0,none⟩ v0).setCell ⟨B,1,none⟩ v1).setCell ⟨B,2,none⟩ v2).setCell ⟨B,3,none⟩ v3).setCell ⟨B,4,none⟩ v4).setCell ⟨B,5,none⟩ v5):=by
 rw [set6_size];exact below_both1 (below_both1 (below_both1 (below_both1 (below_both1 (below_both1 h _ _) _ _) _ _) _ _) _ _) _ _
section
variable {f:Nat} {D:Nat→Prop} {w:World} {b:Bool} {a1 a2:Option Addr} {n1 n2 c1 c2 c3 g3 o3:Nat} {ch:Int} {x1:Option Addr} {y1:Nat} {x2:Option Addr} {y2:Nat} {a a':Tr}
theorem copyOf_box (hc0:w.cell? ⟨g3,o3,none⟩=some (.slice x1 a.ns.length y1)) (hc1:w.cell? ⟨g3,o3+1,none⟩=some (.slice x2 a.kids.length y2)) (lg:g3<w.heap.size) (h:ArV (f+1) D w (.slice x1 a.ns.length y1) (.slice x2 a.kids.length y2) a) (hD:∀ g,D g→g<w.heap.size) (hs1:a.ns.length*8≤140737488355328) (hs2:a.kids.length*96≤140737488355328) (hns:a'.ns=a.ns) (hkl:a'.kids.length=a.kids.length) (hwk:WorkC f D a.kids a'.kids) :
    Calls Tryz.prog 152 #[.agg #[.int .u8 3,.bool b,.slice a1 n1 c1,.slice a2 n2 c2,.int .i32 ch,.slice (some ⟨g3,o3,none⟩) 1 c3]] w fun e w'=>∃ k z1 u1 z2 u2 w1,e=.returned (.agg #[.int .u8 3,.bool false,.slice none 0 0,.slice none 0 0,.int .i32 0,.slice (some ⟨k,0,none⟩) 1 1])∧w.heap.size≤k∧BoxA w' k 29 #[.slice z1 a.ns.length u1,.slice z2 a.kids.length u2]∧ArV (f+1) (Fr w.heap.size w1.heap.size) w1 (.slice z1 a.ns.length u1) (.slice z2 a.kids.length u2) a'∧Below w1.heap.size w1 w'∧Below w.heap.size w w':=by
 have X0:=boxA_new w #[.int .u8 3,.bool b,.slice a1 n1 c1,.slice a2 n2 c2,.int .i32 ch,.slice (some ⟨g3,o3,none⟩) 1 c3] 113;have k0:=below_alloc w (.cells #[.int .u8 3,.bool b,.slice a1 n1 c1,.slice a2 n2 c2,.int .i32 ch,.slice (some ⟨g3,o3,none⟩) 1 c3] 113);have k1:=below_alloc (w.alloc (.cells #[.int .u8 3,.bool b,.slice a1 n1 c1,.slice a2 n2 c2,.int .i32 ch,.slice (some ⟨g3,o3,none⟩) 1 c3] 113)) (.cells #[.int .u8 0,.bool false,.slice none 0 0,.slice none 0 0,.int .i32 0,.slice none 0 0] 113);have R:=boxA_new (w.alloc (.cells #[.int .u8 3,.bool b,.slice a1 n1 c1,.slice a2 n2 c2,.int .i32 ch,.slice (some ⟨g3,o3,none⟩) 1 c3] 113)) #[.int .u8 0,.bool false,.slice none 0 0,.slice none 0 0,.int .i32 0,.slice none 0 0] 113;rw [World.size_alloc] at R;have X:=X0.below k1 (by simp);have g:Below w.heap.size w _:=k0.trans (k1.mono (by simp));have sv:((w.alloc (.cells #[.int .u8 3,.bool b,.slice a1 n1 c1,.slice a2 n2 c2,.int .i32 ch,.slice (some ⟨g3,o3,none⟩) 1 c3] 113)).alloc (.cells #[.int .u8 0,.bool false,.slice none 0 0,.slice none 0 0,.int .i32 0,.slice none 0 0] 113)).heap.size=w.heap.size+1+1:=by simp
 have X0':=X.cell 0 rfl;have X5:=X.cell 5 rfl;have e0:=(g.cell (p:=⟨g3,o3,none⟩) lg).trans hc0;have e1:=(g.cell (p:=⟨g3,o3+1,none⟩) lg).trans hc1;have T:=throughC_any (h.agree (Agree.of g hD)) (fun g' hg=>by have:=hD g' hg;omega) hs1 hs2 hns hkl hwk;clear h hD hwk hns hkl hc0 hc1;go_enter Tryz.func152,Tryz.ntmps152
 go_wp2_with fail
 generalize hA:(w.alloc (.cells #[.int .u8 3,.bool b,.slice a1 n1 c1,.slice a2 n2 c2,.int .i32 ch,.slice (some ⟨g3,o3,none⟩) 1 c3] 113)).alloc (.cells #[.int .u8 0,.bool false,.slice none 0 0,.slice none 0 0,.int .i32 0,.slice none 0 0] 113)=v at *;clear hA k0 k1 X0 X0' X5 e0 e1;refine T.mono ?_;rintro e w1 ⟨z1,u1,z2,u2,rfl,hv,q1⟩;clear T;have HV:Hid (ArV (f+1) (Fr v.heap.size w1.heap.size) w1 (.slice z1 a.ns.length u1) (.slice z2 a.kids.length u2) a'):=hv;clear hv
 go_wp2_with fail
 refine box_any.mono ?_;rintro e w2 ⟨k,rfl,hk,hB,q2⟩;have s1:=q1.size;have kx:Below v.heap.size v w2:=q1.trans (q2.mono s1);have Rc:=R.below kx (by omega);have q0:=Rc.cell 0 rfl;have q1':=Rc.cell 1 rfl;have q2':=Rc.cell 2 rfl;have q3:=Rc.cell 3 rfl;have q4:=Rc.cell 4 rfl;have q5:=Rc.cell 5 rfl;have p0:=Rc.frozen 0;have p1:=Rc.frozen 1;have p2:=Rc.frozen 2;have p3:=Rc.frozen 3;have p4:=Rc.frozen 4;have p5:=Rc.frozen 5;go_wp2
 have Rd6:=Rc.set6 (.int .u8 3) (.bool false) (.slice none 0 0) (.slice none 0 0) (.int .i32 0) (.slice (some ⟨k,0,none⟩) 1 1);have r0:=Rd6.cell 0 rfl;have r1:=Rd6.cell 1 rfl;have r2:=Rd6.cell 2 rfl;have r3:=Rd6.cell 3 rfl;have r4:=Rd6.cell 4 rfl;have r5:=Rd6.cell 5 rfl
 try simp only [Exit.inBlock,Exit.then]
 refine bodyPost_ret (v:=.agg #[.int .u8 3,.bool false,.slice none 0 0,.slice none 0 0,.int .i32 0,.slice (some ⟨k,0,none⟩) 1 1]) ?_ rfl ?_
 · simp [results,Tryz.results152,go_sem,r0,r1,r2,r3,r4,r5]
 have hne:w.heap.size+1≠k:=by omega
 refine ⟨k,z1,u1,z2,u2,(((((w1.setCell ⟨w.heap.size+1,0,none⟩ (.int .u8 3)).setCell ⟨w.heap.size+1,1,none⟩ (.bool false)).setCell ⟨w.heap.size+1,2,none⟩ (.slice none 0 0)).setCell ⟨w.heap.size+1,3,none⟩ (.slice none 0 0)).setCell ⟨w.heap.size+1,4,none⟩ (.int .i32 0)).setCell ⟨w.heap.size+1,5,none⟩ (.slice (some ⟨k,0,none⟩) 1 1),rfl,by omega,?_,?_,?_,Below.set6 (g.trans (kx.mono (by omega))) (by omega) _ _ _ _ _ _⟩
 · exact boxA_o6 hB hne _ _ _ _ _ _
 · refine ArV.imp ?_ ?_ (f+1) (f+1) _ _ _ (Nat.le_refl _) HV.out
   · rintro g' ⟨h1,h2⟩;exact ⟨by omega,by rw [set6_size];exact h2⟩
   · rintro g' ⟨h1,h2⟩;exact set6_other (by omega) _ _ _ _ _ _
 · exact below_both6 q2 _ _ _ _ _ _
end
theorem copyOf_all:∀ (f L:Nat) (D:Nat→Prop) (W:World) (x:IV) (t:Tr),(∀ g,D g→g<W.heap.size)→IsIt f D W x t→(measI (measF L) t).isSome=true →
    Calls Tryz.prog 152 #[.agg #[.int .u8 x.k,.bool x.b,.slice x.a1 x.n1 x.c1,.slice x.a2 x.n2 x.c2,.int .i32 x.c,.slice x.a3 x.n3 x.c3]] W fun e w'=>∃ y:IV,e=.returned (.agg #[.int .u8 y.k,.bool y.b,.slice y.a1 y.n1 y.c1,.slice y.a2 y.n2 y.c2,.int .i32 y.c,.slice y.a3 y.n3 y.c3])∧IsIt f (Fr W.heap.size w'.heap.size) w' y t∧Below W.heap.size W w':=by
 intro f
 induction f with
 | zero=>
  intro L D W x t hD hx hm;rcases measI_cases hm with ⟨h1,h2,h3,h4⟩ | ⟨h1,h2,h3,h4⟩ | ⟨h1,h2,h3,h4,h5,h6⟩
  · have e1:=hx.k;have e2:=hx.b;have e3:=hx.n1;have e4:=hx.n2
    rw [h1] at e1;rw [e1,e2,e3,e4];refine (copyOf_numG ((hx.v.rn.rd hD)) ((hx.v.rd.rd hD)) (by have:=h2.1;omega) (by have:=h2.2.1;omega)).mono ?_;rintro e w' ⟨z1,u1,z2,u2,rfl,o1,o2,k⟩;exact ⟨⟨1,t.b,z1,t.ns.length,u1,z2,t.ds.length,u2,0,none,0,0⟩,rfl,isIt_num h1 h3 h4 o1 o2,k⟩
  · have e1:=hx.k;have e5:=hx.c
    rw [h1] at e1;rw [e1,e5];obtain ⟨q1,q2,q3⟩:=noneB_is h3;refine (copyOf_ch).mono ?_;rintro e w' ⟨rfl,k⟩;exact ⟨⟨2,false,none,0,0,none,0,0,t.c,none,0,0⟩,rfl,isIt_ch h1 q1 q2 q3 h4,k⟩
  · exfalso
    have hb:=hx.v.bx;obtain ⟨g1,o1,_,_,hc⟩:=hb.ptr (by omega);obtain ⟨_,_,_,_,_,_,_,_,hv⟩:=hc 0 (by omega);exact hv.elim
 | succ f ih=>
  intro L D W x t hD hx hm;rcases measI_cases hm with ⟨h1,h2,h3,h4⟩ | ⟨h1,h2,h3,h4⟩ | ⟨h1,h2,h3,h4,h5,h6⟩
  · have e1:=hx.k;have e2:=hx.b;have e3:=hx.n1;have e4:=hx.n2
    rw [h1] at e1;rw [e1,e2,e3,e4];refine (copyOf_numG ((hx.v.rn.rd hD)) ((hx.v.rd.rd hD)) (by have:=h2.1;omega) (by have:=h2.2.1;omega)).mono ?_;rintro e w' ⟨z1,u1,z2,u2,rfl,o1,o2,k⟩;exact ⟨⟨1,t.b,z1,t.ns.length,u1,z2,t.ds.length,u2,0,none,0,0⟩,rfl,isIt_num h1 h3 h4 o1 o2,k⟩
  · have e1:=hx.k;have e5:=hx.c
    rw [h1] at e1;rw [e1,e5];obtain ⟨q1,q2,q3⟩:=noneB_is h3;refine (copyOf_ch).mono ?_;rintro e w' ⟨rfl,k⟩;exact ⟨⟨2,false,none,0,0,none,0,0,t.c,none,0,0⟩,rfl,isIt_ch h1 q1 q2 q3 h4,k⟩
  · have e1:=hx.k;have e6:=hx.n3
    rw [h1] at e1;rw [h4] at e6;obtain ⟨q1,q2,q3⟩:=noneB_is h2;have hb:=hx.v.bx;obtain ⟨g1,o1,ea,hg1,hc⟩:=hb.ptr (by omega);obtain ⟨p1,m1,r1,p2,m2,r2,c1,c2,hv⟩:=hc 0 (by omega);rw [Nat.zero_mul,Nat.add_zero] at c1 c2;obtain ⟨L',rfl,s1,s2,s3,s4,s5⟩:=measF_some h6;generalize ha:t.kids.getD 0 tr0=a at *;obtain rfl:=hv.1.len;obtain rfl:=hv.2.len;rw [e1,e6,ea];refine (copyOf_box (f:=f) (D:=D) (a:=a) (a':=a) c1 c2 (hD g1 hg1) hv hD (by omega) (by omega) rfl rfl ?_).mono ?_
    · intro j y W2 hj hy hD2
      exact ih L' D W2 y _ hD2 hy (s5 _ (getD_memI hj))
    · rintro e w' ⟨k,z1,u1,z2,u2,w1,rfl,hk,hB,hV,kb,kw⟩
      exact ⟨⟨3,false,none,0,0,none,0,0,0,some ⟨k,0,none⟩,1,1⟩,rfl,isIt_box h1 q1 q2 q3 h3 h4 ha hk hB hV kb,kw⟩
theorem meas_zero:MeasOK 0:=by
 intro f D W x1 n1 y1 x2 n2 y2 t hD h;obtain ⟨f,rfl⟩:∃ f',f=f'+1:=by
  cases f with
  | zero=>exact h.elim
  | succ f=>exact ⟨f,rfl⟩
 obtain rfl:=h.1.len;obtain rfl:=h.2.len;have bd1:=h.1.bounds;have bd2:=h.2.bounds;have H:Hid (ArV (f+1) D W (.slice x1 t.ns.length y1) (.slice x2 t.kids.length y2) t):=h;have HD:Hid (∀ g,D g→g<W.heap.size):=hD;clear h hD;have X0:=boxA_new W #[.slice x1 t.ns.length y1,.slice x2 t.kids.length y2] 29;have k0:=below_alloc W (.cells #[.slice x1 t.ns.length y1,.slice x2 t.kids.length y2] 29);have k1:=below_alloc (W.alloc (.cells #[.slice x1 t.ns.length y1,.slice x2 t.kids.length y2] 29)) (.cells #[.int .i64 0,.int .i64 0] 132);have R:=boxA_new (W.alloc (.cells #[.slice x1 t.ns.length y1,.slice x2 t.kids.length y2] 29)) #[.int .i64 0,.int .i64 0] 132;rw [World.size_alloc] at R;have X:=X0.below k1 (by simp);have g:Below W.heap.size W _:=k0.trans (k1.mono (by simp));have sv:((W.alloc (.cells #[.slice x1 t.ns.length y1,.slice x2 t.kids.length y2] 29)).alloc (.cells #[.int .i64 0,.int .i64 0] 132)).heap.size=W.heap.size+1+1:=by simp
 have z0:=X.cell 0 rfl;have z1:=X.cell 1 rfl;go_enter Tryz.func76,Tryz.ntmps76
 go_wp2_with fail
 generalize hA:(W.alloc (.cells #[.slice x1 t.ns.length y1,.slice x2 t.kids.length y2] 29)).alloc (.cells #[.int .i64 0,.int .i64 0] 132)=v at *;clear hA k0 k1 X0;refine (arrSize_any (H.out.1.imp (fun _ h=>h) (Agree.of g HD.out)) (fun g hg=>by have:=HD.out g hg;omega)).mono ?_;rintro e w' ⟨rfl,hw⟩;obtain rfl:=hw.symm;have hsi:=sizeF_in t.ns;have R0:=R.cell 0 rfl;have R1:=R.cell 1 rfl;have Rf0:=R.frozen 0;have Rf1:=R.frozen 1;generalize (sizeF t.ns).2=E at *;generalize (sizeF t.ns).1=N at *;by_cases he:E=0
 · have d1:(E != 0)=false:=by rw [bne_eq_false_iff_eq];exact he
   clear he;by_cases hn:(t.kids.length:Int)=max N 1
   · have d2:((t.kids.length:Int) != max N 1)=false:=by rw [bne_eq_false_iff_eq];exact hn
     clear hn;go_wp2
     have Rd2:=R.set2 (.int .i64 0) (.int .i64 0);have r0:=Rd2.cell 0 rfl;have r1:=Rd2.cell 1 rfl;refine bodyPost_ret (v:=.tuple #[.agg #[.int .i64 0,.int .i64 0],.bool false]) (by simp [results,Tryz.results76,go_sem,r0,r1]) rfl ?_;exact ⟨by rw [measF];rfl,Below.set2 g (by omega) _ _⟩
   · have d2:((t.kids.length:Int) != max N 1)=true:=by rw [bne_iff_ne];exact hn
     clear hn;go_wp2
     have Rd2:=R.set2 (.int .i64 0) (.int .i64 0);have r0:=Rd2.cell 0 rfl;have r1:=Rd2.cell 1 rfl;refine bodyPost_ret (v:=.tuple #[.agg #[.int .i64 0,.int .i64 0],.bool false]) (by simp [results,Tryz.results76,go_sem,r0,r1]) rfl ?_;exact ⟨by rw [measF];rfl,Below.set2 g (by omega) _ _⟩
 · have d1:(E != 0)=true:=by rw [bne_iff_ne];exact he
   clear he;go_wp2
   have Rd2:=R.set2 (.int .i64 0) (.int .i64 0);have r0:=Rd2.cell 0 rfl;have r1:=Rd2.cell 1 rfl;refine bodyPost_ret (v:=.tuple #[.agg #[.int .i64 0,.int .i64 0],.bool false]) (by simp [results,Tryz.results76,go_sem,r0,r1]) rfl ?_;exact ⟨by rw [measF];rfl,Below.set2 g (by omega) _ _⟩
theorem meas_all:∀ L,L≤1000→MeasOK L
 | 0,_=>meas_zero
 | L+1,h=>meas_step (by omega) (meas_all L (by omega))
section
variable {D:Nat→Prop} {f:Nat} {W:World} {x1:Option Addr} {n1 y1:Nat} {x2:Option Addr} {n2 y2:Nat} {t:Tr}
theorem right3_any (hD:∀ g,D g→g<W.heap.size) (h:ArV f D W (.slice x1 n1 y1) (.slice x2 n2 y2) t):Calls Tryz.prog 43 #[.agg #[.slice x1 n1 y1,.slice x2 n2 y2]] W fun e w'=>e=.returned (.bool (measF 16 t).isSome)∧Below W.heap.size W w':=by
 have k0:=below_alloc W (.cells #[.slice x1 n1 y1,.slice x2 n2 y2] 29);have X0:=boxA_new W #[.slice x1 n1 y1,.slice x2 n2 y2] 29;have s0:W.heap.size<(W.alloc (.cells #[.slice x1 n1 y1,.slice x2 n2 y2] 29)).heap.size:=by simp
 have z0:=X0.cell 0 rfl;have z1:=X0.cell 1 rfl;have hm:=meas_all 16 (by omega) f D _ x1 n1 y1 x2 n2 y2 t (fun g hg=>by have:=hD g hg;omega) (h.agree (Agree.of k0 hD));rw [show ((16:Nat):Int)=16 from rfl] at hm;go_enter Tryz.func43,Tryz.ntmps43
 go_wp2_with fail
 clear z0 z1 X0;generalize hA:W.alloc (.cells #[.slice x1 n1 y1,.slice x2 n2 y2] 29)=w0 at *;clear hA;refine hm.mono ?_;rintro e w' ⟨rfl,k⟩;unfold mEnd;generalize hO1:((measF 16 t).getD (0,0)).1=A1 at *;generalize hO2:((measF 16 t).getD (0,0)).2=A2 at *;generalize hO3:(measF 16 t).isSome=A3 at *;have HO:Hid ((measF 16 t).isSome=A3):=hO3;clear hO1 hO2 hO3 hm;have kp:=below_alloc w' (.cells #[.int .i64 A1,.int .i64 A2] 132);have sk:=k.size;go_wp2
 go_ret
 exact ⟨by rw [HO.out];rfl,(by first | exact k0.trans (k.mono (by omega)) | exact k0.trans ((k.trans (kp.mono sk)).mono (by omega)))⟩
end
end Go.Proofs.YtimfnalpmmkndaaGreatDoor
