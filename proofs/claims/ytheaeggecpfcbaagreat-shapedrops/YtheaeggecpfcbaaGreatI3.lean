/- shape.selected, where nothing is left: the prototype. -/
import Derived.Test.YtheaeggecpfcbaaGreatH8
import Derived.Test.YtheaeggecpfcbaaGreatI2
import Derived.Test.YtheaeggecpfcbaaGreatH6
import Derived.Test.YtheaeggecpfcbaaGreatHH
import Derived.Test.YtheaeggecpfcbaaGreatH9
set_option maxRecDepth 100000
set_option maxHeartbeats 16000000
set_option linter.unusedVariables false
set_option linter.unusedSimpArgs false
namespace Go.Proofs.YtheaeggecpfcbaaGreat
section
open Go.RowKit Go.Shelf
attribute [local go_sem] Oper.semAt_some
theorem selected_none {f:Nat} {D:Nat→Prop} {w:World} {x1 x2 b:Option Addr} {y1 y2 c:Nat} {t:Tr} {ss:List (List Int)} (hD:∀ g,D g→g<w.heap.size) (hA:ArV (f+1) D w (.slice x1 t.ns.length y1) (.slice x2 t.kids.length y2) t) (hm:(measF 16 t).isSome=true)
    (hR:Rows2 D w b c ss) (hS:SmallS ss) (hl:∀ l∈ss,l.length≤1000000) (hE:sizeF (lenF ss)=(0,0)) :
    Calls Tryz.prog 100 #[.agg #[.slice x1 t.ns.length y1,.slice x2 t.kids.length y2],.slice b ss.length c] w fun e w'=>∃ z1 u1 z2 u2,e=.returned (.tuple #[.agg #[.slice z1 ss.length u1,.slice z2 1 u2],.int .i64 0])∧ArV (f+1) (Fr w.heap.size w'.heap.size) w' (.slice z1 ss.length u1) (.slice z2 1 u2) (arrT (lenF ss) [tyI (t.kids.getD 0 tr0)])∧Below w.heap.size w w':=by
 obtain ⟨L',hL',_,_,hk,hk4,hallk⟩:=measF_some hm;have hpos:0<t.kids.length:=by omega
 obtain ⟨L,hLl,hRL,hIL⟩:=row_iv hA.2;rw [← hLl] at hRL;obtain ⟨g,o,rfl,hg,hcs⟩:=RowB.ptr hRL (by omega);have HD:Hid (∀ g,D g→g<w.heap.size):=hD;have HA:Hid (ArV (f+1) D w (.slice x1 t.ns.length y1) (.slice (some ⟨g,o,none⟩) t.kids.length y2) t):=hA;have HM:Hid ((measF 16 t).isSome=true):=hm;have HR:Hid (Rows2 D w b c ss):=hR;have HS:Hid (SmallS ss):=hS;have HLL:Hid (∀ l∈ss,l.length≤1000000):=hl;have HNE:Hid (sizeF (lenF ss)=(0,0)):=hE;have HFit:Hid ((∀ s∈[tyI (t.kids.getD 0 tr0)],(measI (measF 16) s).isSome=true)∧(togF (cyc (0,0) (msOf [tyI (t.kids.getD 0 tr0)]) 1)).1≤16∧(togF (cyc (0,0) (msOf [tyI (t.kids.getD 0 tr0)]) 1)).2≤16384):=fit_one hm (getD_memI hpos);have hr100:ss.length≤100:=hS.1;have hrc:=hR.1;have hbo:y2≤9223372036854775807∧t.kids.length≤y2:=⟨hA.2.bounds.2,hA.2.bounds.1⟩;have hgl:=hD g hg;have k0:=below_alloc w (.cells #[.slice x1 t.ns.length y1,.slice (some ⟨g,o,none⟩) t.kids.length y2] 25);have X0:=boxA_new w #[.slice x1 t.ns.length y1,.slice (some ⟨g,o,none⟩) t.kids.length y2] 25;have k1:=below_alloc (w.alloc (.cells #[.slice x1 t.ns.length y1,.slice (some ⟨g,o,none⟩) t.kids.length y2] 25)) (.cells #[.slice none 0 0,.slice none 0 0] 25);have R0:=boxA_new (w.alloc (.cells #[.slice x1 t.ns.length y1,.slice (some ⟨g,o,none⟩) t.kids.length y2] 25)) #[.slice none 0 0,.slice none 0 0] 25;have X:=X0.below k1 (by simp);have kv:Below w.heap.size w _:=k0.trans (k1.mono (by simp));have sv:((w.alloc (.cells #[.slice x1 t.ns.length y1,.slice (some ⟨g,o,none⟩) t.kids.length y2] 25)).alloc (.cells #[.slice none 0 0,.slice none 0 0] 25)).heap.size=w.heap.size+1+1:=by simp
 rw [World.size_alloc] at R0;clear hD hA hm hR hS hl hE hL' hk hallk hRL hIL hcs hLl k0 k1 X0;go_enter Tryz.func100,Tryz.ntmps100
 go_wp2_with fail
 generalize hAA:(w.alloc (.cells #[.slice x1 t.ns.length y1,.slice (some ⟨g,o,none⟩) t.kids.length y2] 25)).alloc (.cells #[.slice none 0 0,.slice none 0 0] 25)=v at *;clear hAA;refine (lengths6_any (HR.out.imp (fun _ h=>h) (Agree.of kv HD.out)) (fun g hg=>by have:=HD.out g hg;omega) hr100 HLL.out).mono ?_;rintro e w1 ⟨z,u,rfl,hln,q1⟩;have HLN1:Hid (RdN (Fr v.heap.size w1.heap.size) w1 (.slice z ss.length u) (lenF ss)):=hln;have s1:=q1.size;have kw1:=kv.trans (q1.mono (by omega));have X1:=X.below q1 (by omega);have R1:=R0.below q1 (by omega);clear hln
 go_wp2_with fail
 have CS:=arrSize_any (w:=w1) (D:=Fr v.heap.size w1.heap.size) (sh:=lenF ss) (a:=z) (c:=u) (by rw [lenF_len];exact HLN1.out) (fun g hg=>hg.2);rw [lenF_len,HNE.out] at CS;refine CS.mono ?_;rintro e w1' ⟨rfl,hw⟩;obtain rfl:=hw.symm;clear CS;have z0:=X1.cell 0 rfl;have z1:=X1.cell 1 rfl
 go_wp2_with fail
 refine (proto6_any (fun g hg=>by have:=HD.out g hg;omega) (HA.out.agree (Agree.of kw1 HD.out)) HM.out).mono ?_;rintro e w2 ⟨y,rfl,hy,q2⟩;have HY:Hid (IsIt f (Fr w1.heap.size w2.heap.size) w2 y (tyI (t.kids.getD 0 tr0))):=hy;have s2:=q2.size;have X2:=X1.below q2 (by omega);have R2:=R1.below q2 (by omega);have kw2:=kw1.trans (q2.mono (by omega));clear hy z0 z1
 go_wp2_with fail
 have kp:=below_alloc w2 (.cells #[.int .u8 y.k,.bool y.b,.slice y.a1 y.n1 y.c1,.slice y.a2 y.n2 y.c2,.int .i32 y.c,.slice y.a3 y.n3 y.c3] 68);obtain ⟨va,hva⟩:∃ va,w2.alloc (.cells #[.int .u8 y.k,.bool y.b,.slice y.a1 y.n1 y.c1,.slice y.a2 y.n2 y.c2,.int .i32 y.c,.slice y.a3 y.n3 y.c3] 68)=va:=⟨_,rfl⟩;have sa:va.heap.size=w2.heap.size+1:=by rw [← hva,World.size_alloc]
 rw [hva] at kp ⊢;have kt:=below_alloc va (.cells #[.int .u8 y.k,.bool y.b,.slice y.a1 y.n1 y.c1,.slice y.a2 y.n2 y.c2,.int .i32 y.c,.slice y.a3 y.n3 y.c3] 68);have BT:=boxA_new va #[.int .u8 y.k,.bool y.b,.slice y.a1 y.n1 y.c1,.slice y.a2 y.n2 y.c2,.int .i32 y.c,.slice y.a3 y.n3 y.c3] 68;obtain ⟨vb,hvb⟩:∃ vb,va.alloc (.cells #[.int .u8 y.k,.bool y.b,.slice y.a1 y.n1 y.c1,.slice y.a2 y.n2 y.c2,.int .i32 y.c,.slice y.a3 y.n3 y.c3] 68)=vb:=⟨_,rfl⟩;have sb:vb.heap.size=w2.heap.size+1+1:=by rw [← hvb,World.size_alloc,sa]
 rw [hvb] at kt BT ⊢;clear hva hvb;rw [sa] at BT;have k20:Below w2.heap.size w2 vb:=kp.trans (kt.mono (by omega));have X3:=X2.below k20 (by omega);have R3:=R2.below k20 (by omega);have kw0:=kw2.trans (k20.mono (by omega));have HLN0:Hid (RdN (Fr v.heap.size w1.heap.size) vb (.slice z ss.length u) (lenF ss)):=HLN1.out.imp (fun _ h=>h) (Agree.of (q2.trans (k20.mono (by omega))) (fun g hg=>hg.2));have HY0:IsIt f (Fr w1.heap.size w2.heap.size) vb y (tyI (t.kids.getD 0 tr0)):=HY.out.agree (Agree.of k20 (fun g hg=>hg.2));have HRW:Hid (RowB (Fr w1.heap.size vb.heap.size) [tyI (t.kids.getD 0 tr0)].length (.slice (some ⟨w2.heap.size+1,0,none⟩) 1 1) (fun g o j=>ItC (ArV f (Fr w1.heap.size vb.heap.size) vb) (Fr w1.heap.size vb.heap.size) vb g (o+j*6) ([tyI (t.kids.getD 0 tr0)].getD j tr0))):=by
  have hI:IsIt f (Fr w1.heap.size vb.heap.size) vb y (tyI (t.kids.getD 0 tr0)):=HY0.imp (fun g hg=>⟨hg.1,by have:=hg.2;omega⟩) (fun _ _=>rfl);refine ⟨_,_,rfl,Nat.le_refl _,by decide,fun h=>(by cases h),Or.inr ⟨_,_,rfl,⟨by omega,by omega⟩,fun j hj => ?_⟩⟩;obtain rfl:j=0:=by simpa using hj
  exact ⟨y.a1,y.c1,y.a2,y.c2,y.a3,y.c3,⟨by rw [show [tyI (t.kids.getD 0 tr0)].getD 0 tr0=tyI (t.kids.getD 0 tr0) from rfl,← hI.k];exact BT.cell 0 rfl,by rw [show [tyI (t.kids.getD 0 tr0)].getD 0 tr0=tyI (t.kids.getD 0 tr0) from rfl,← hI.b];exact BT.cell 1 rfl,by rw [show [tyI (t.kids.getD 0 tr0)].getD 0 tr0=tyI (t.kids.getD 0 tr0) from rfl,← hI.n1];exact BT.cell 2 rfl,by rw [show [tyI (t.kids.getD 0 tr0)].getD 0 tr0=tyI (t.kids.getD 0 tr0) from rfl,← hI.n2];exact BT.cell 3 rfl,by rw [show [tyI (t.kids.getD 0 tr0)].getD 0 tr0=tyI (t.kids.getD 0 tr0) from rfl,← hI.c];exact BT.cell 4 rfl,by rw [show [tyI (t.kids.getD 0 tr0)].getD 0 tr0=tyI (t.kids.getD 0 tr0) from rfl,← hI.n3];exact BT.cell 5 rfl⟩,hI.v⟩
 have CM:=make_none (w:=vb) (f:=f) (x1:=z) (y1:=u) (sh:=lenF ss) (l:=[tyI (t.kids.getD 0 tr0)]) (D:=Fr v.heap.size vb.heap.size) (a2:=some ⟨w2.heap.size+1,0,none⟩) (c2:=1)
  (by rw [lenF_len];exact HLN0.out.imp (fun g hg=>⟨hg.1,by have:=hg.2;omega⟩) (fun _ _=>rfl))
  (RowB.imp HRW.out (fun g hg=>⟨by have:=hg.1;omega,hg.2⟩) (fun g o j hg hj hc=>hc.imp hg (fun g hg=>⟨by have:=hg.1;omega,hg.2⟩) (fun _ _=>rfl) (fun _ _ _ h=>h.mono (fun g hg=>⟨by have:=hg.1;omega,hg.2⟩))))
  (fun g hg=>hg.2) (by simp) (by simp) (by rw [HNE.out]) (by rw [HNE.out])
  HFit.out.1 HFit.out.2.1 HFit.out.2.2
 rw [lenF_len] at CM;refine CM.mono ?_;rintro e w3 ⟨z1,u1,z2,u2,rfl,hv,q3⟩;have HV:Hid _:=hv;clear CM hv;have s3:=q3.size;have R4:=R3.below q3 (by omega);have r0:=R4.cell 0 rfl;have r1:=R4.cell 1 rfl;have f0:=R4.frozen 0;have f1:=R4.frozen 1;go_wp2
 have R5:=R4.set2 (.slice z1 ss.length u1) (.slice z2 1 u2);have r0:=R5.cell 0 rfl;have r1:=R5.cell 1 rfl;have kz:=kw0.trans (q3.mono (by have:=kw0.size;omega));have szv:=kw0.size;refine bodyPost_ret (v:=.tuple #[.agg #[.slice z1 ss.length u1,.slice z2 1 u2],.int .i64 0]) (by simp [results,Tryz.results100,go_sem,r0,r1]) rfl ?_;refine ⟨z1,u1,z2,u2,rfl,?_,Below.set2 kz (by omega) _ _⟩;have hc:cyc tr0 ([tyI (t.kids.getD 0 tr0)].map tyI) 1=[tyI (t.kids.getD 0 tr0)]:=by
  show [tyI (tyI (t.kids.getD 0 tr0))]=_;rw [tyI_idem]
 have HV':=HV.out;rw [hc] at HV';refine ArV.imp ?_ ?_ (f+1) (f+1) _ _ _ (Nat.le_refl _) HV'
 · rintro q ⟨h1,h2⟩
   exact ⟨by omega,by rw [set1_size,set1_size];omega⟩
 · rintro q ⟨h1,h2⟩
   rw [set1_other (by show ¬ w.heap.size+1=q;omega),set1_other (by show ¬ w.heap.size+1=q;omega)]
end
section
open Go.RowKit
section
variable {D:Nat→Prop} {f:Nat} {W:World} {x1:Option Addr} {n1 y1:Nat} {x2:Option Addr} {y2:Nat} {l:List Int} {s0:Tr}
theorem toInts_own (hD:∀ g,D g→g<W.heap.size) (hin:∀ x∈l,-9223372036854775808≤x∧x≤9223372036854775807) (h:ArV (f+1) D W (.slice x1 n1 y1) (.slice x2 l.length y2) s0) (hr:(measF 16 s0).isSome=true) (hn1:n1≤1) (hkk:s0.kids=l.map wholeT) (hz:(sizeF s0.ns).1≠0) :
    Calls Tryz.prog 134 #[.agg #[.slice x1 n1 y1,.slice x2 l.length y2]] W fun e w'=>∃ a c,e=.returned (.tuple #[.slice a l.length c,.bool true])∧Hid (OwZ W.heap.size w' (.slice a l.length c) l)∧Below W.heap.size W w':=by
 obtain ⟨L',hL',_,_,hk0,hk4,_⟩:=measF_some hr;have hlk:s0.kids.length=l.length:=by rw [hkk,List.length_map]
 have HM:Hid ((measF 16 s0).isSome=true):=hr;have HIn:Hid (∀ x∈l,-9223372036854775808≤x∧x≤9223372036854775807):=hin;have hpos:0<l.length:=by omega
 have hm4:l.length≤4096:=by omega
 have HKids:Hid (∀ j,j<l.length→s0.kids.getD j tr0=wholeT (l.getD j 0)):=by
  intro j hj;rw [hkk,List.getD_eq_getElem?_getD,List.getElem?_map,List.getElem?_eq_getElem hj,List.getD_eq_getElem?_getD,List.getElem?_eq_getElem hj];rfl
 have hd:decide ((sizeF s0.ns).1=0)=false:=decide_eq_false hz;have HDc:Hid (decide ((sizeF s0.ns).1=0)=false):=hd;have HLK:Hid (s0.kids.length=l.length):=hlk;have hg1:¬ (1:Int)<(n1:Int):=by omega
 have hg2:decide ((1:Int)<(n1:Int))=false:=decide_eq_false hg1;have hg3:¬ (n1:Int) > 1:=by omega
 have hg4:n1≤9223372036854775807:=by omega
 obtain ⟨n2,hn2⟩:∃ n2,l.length=n2:=⟨_,rfl⟩;have HMl:Hid (l.length=n2):=hn2;rw [hn2] at hpos hm4 h ⊢;have H:Hid (ArV (f+1) D W (.slice x1 n1 y1) (.slice x2 n2 y2) s0):=h;have HD:Hid (∀ g,D g→g<W.heap.size):=hD;have k0:=below_alloc W (.cells #[.slice x1 n1 y1,.slice x2 n2 y2] 25);have X0:=boxA_new W #[.slice x1 n1 y1,.slice x2 n2 y2] 25;have sz0:W.heap.size<(W.alloc (.cells #[.slice x1 n1 y1,.slice x2 n2 y2] 25)).heap.size:=by simp
 have z0:=X0.cell 0 rfl;have z1:=X0.cell 1 rfl;obtain ⟨i0,hi0,hz0,hz1,hz2⟩:=info_parts info_int3;clear h hD hin hr hkk hz hd hlk hk0 hL' hk4;clear hn2;go_enter Tryz.func134,Tryz.ntmps134
 go_wp2_with fail
 generalize hA:W.alloc (.cells #[.slice x1 n1 y1,.slice x2 n2 y2] 25)=v at *;clear hA;have C1:=right3_any (fun g hg=>by have:=HD.out g hg;omega) (H.out.agree (Agree.of k0 HD.out));rw [HM.out] at C1;refine C1.mono ?_;rintro e w1 ⟨rfl,q1⟩;clear C1 z0 z1;have X1:=X0.below q1 sz0;have l1:=X1.lt;have k1:Below W.heap.size W w1:=k0.trans (q1.mono (by omega));have v0:=X1.cell 0 rfl;have v1:=X1.cell 1 rfl;have C2:=isEmpty3_any (fun g hg=>by have:=HD.out g hg;omega) (H.out.agree (Agree.of k1 HD.out));rw [HDc.out] at C2
 go_wp2_with fail
 refine C2.mono ?_;rintro e w2 ⟨rfl,q2⟩;clear C2 v0 v1;have X2:=X1.below q2 l1;have l2:=X2.lt;have k2:Below W.heap.size W w2:=k1.trans (q2.mono (by omega));have u1:=X2.cell 1 rfl
 go_wp2_with fail
 go_loopw [4,23] (fun ov iv wr=>∃ (i:Nat) (a:Option Addr) (c:Nat),iv=.int .i64 i∧ov=.slice a i c∧i≤n2∧wr.ownsRow W.heap.size 3 1 (.slice a i c) i ((l.take i).map (Value.int .i64))∧Below W.heap.size W wr) (fun _ iv _=>n2 - (intOf iv).toNat)
 case atStart=>exact ⟨0,none,0,rfl,rfl,Nat.zero_le _,World.ownsRow_nil _ _ _ _,k2⟩
 case round=>
  obtain ⟨i,a,c,rfl,rfl,hil,ho,hbr⟩:=hrel;have sb:=hbr.size;by_cases hlt:i<n2
  · have hR:=H.out.2
    have hcell:∃ g o,x2=some ⟨g,o,none⟩∧D g∧∀ j,j<n2→ItC (ArV f D W) D W g (o+j*6) (s0.kids.getD j tr0):=by
     rw [HLK.out,HMl.out] at hR;exact RowB.ptr hR hpos
    obtain ⟨g1,o1,rfl,hg1,hc1⟩:=hcell;obtain ⟨b1,d1,b2,d2,b3,d3,⟨e0,e1,e2,e3,e4,e5⟩,hv⟩:=hc1 i hlt;have hk:=HKids.out i (by have:=HMl.out;omega);have lg:=HD.out g1 hg1;obtain ⟨q,hq⟩:∃ q,l.getD i 0=q:=⟨_,rfl⟩;rw [hq] at hk;have hqm:q∈l:=by
     have hjl:i<l.length:=by have:=HMl.out;omega
     rw [← hq,List.getD_eq_getElem?_getD,List.getElem?_eq_getElem hjl];exact List.getElem_mem hjl
    obtain ⟨hq0,hq1⟩:=HIn.out q hqm;obtain ⟨t,ht⟩:∃ t,s0.kids.getD i tr0=t:=⟨_,rfl⟩;rw [ht] at e0 e1 e2 e3 e4 e5 hv hk;have HT:Hid (t=wholeT q):=hk;have HQ:Hid (l.take i++[q]=l.take (i+1)):=by unfold Hid;rw [← hq];exact pre_step (by have:=HMl.out;omega)
    have E0:=(hbr.cell (p:=⟨g1,o1+i*6,none⟩) lg).trans e0;have E1:=(hbr.cell (p:=⟨g1,o1+i*6+1,none⟩) lg).trans e1;have E2:=(hbr.cell (p:=⟨g1,o1+i*6+2,none⟩) lg).trans e2;have E3:=(hbr.cell (p:=⟨g1,o1+i*6+3,none⟩) lg).trans e3;have E4:=(hbr.cell (p:=⟨g1,o1+i*6+4,none⟩) lg).trans e4;have E5:=(hbr.cell (p:=⟨g1,o1+i*6+5,none⟩) lg).trans e5;have HV:Hid (ItV (ArV f D W) D W b1 d1 b2 d2 b3 d3 t):=hv;clear hc1 e0 e1 e2 e3 e4 e5 hv hk ht hq hqm hR;have kx:=below_alloc wr (.cells #[.int .u8 t.k,.bool t.b,.slice b1 t.ns.length d1,.slice b2 t.ds.length d2,.int .i32 t.c,.slice b3 t.kids.length d3] 68);have BX:=boxA_new wr #[.int .u8 t.k,.bool t.b,.slice b1 t.ns.length d1,.slice b2 t.ds.length d2,.int .i32 t.c,.slice b3 t.kids.length d3] 68;have ho1:=ho.alloc (.cells #[.int .u8 t.k,.bool t.b,.slice b1 t.ns.length d1,.slice b2 t.ds.length d2,.int .i32 t.c,.slice b3 t.kids.length d3] 68);have hb1:=hbr.trans (kx.mono sb);have m0:=BX.cell 0 rfl;have m1:=BX.cell 1 rfl;have m2:=BX.cell 2 rfl;have m3:=BX.cell 3 rfl;have m4:=BX.cell 4 rfl;have m5:=BX.cell 5 rfl;have C:=whole_any (fun g hg=>by have:=HD.out g hg;have:=hb1.size;omega) (HV.out.agree (Agree.of hb1 HD.out));clear ho hbr
    go_wp2_with fail
    refine C.mono ?_;rintro e w3 ⟨n,ok,rfl,HTI,k3⟩;have hno:=tells_whole hq0 (by omega) (show TellsInt (wholeT q) n ok by rw [← HT.out];exact HTI.out);obtain ⟨rfl,rfl⟩:=hno;clear C m0 m1 m2 m3 m4 m5 BX HTI HT;have ho2:=row_below ho1 k3 (Nat.le_refl _);have hbb:=hb1.trans (k3.mono hb1.size);have sz2:=hbb.size;clear ho1 hb1 kx
    go_wp2_with (at_builtin;refine wpList_append_own _ rfl _ _ 23 rfl W.heap.size 3 i0 (.int .i64 0) 1 8 Tryz.underlying23 hi0 hz0 hz1 hz2 rfl (by decide) _ i ((l.take i).map (Value.int .i64)) rfl (ho2.alloc _) ⟨w3.heap.size,0,none⟩ 1 1 [.int .i64 n] rfl rfl (cells_new w3 #[.int .i64 n] _) (by intro u hu;simp at hu;subst hu;rfl) (by unfold maxLen;omega) (by omega) (by simp;omega) ?_)
    intro v' w4 hown hgr _;obtain ⟨a4,c4,rfl⟩:=row_form3 hown;have hrow:∀ k,(Value.slice a i c).ownBlock=some k→W.heap.size≤k:=fun k e=>(row_own ho2 k e).1;have hb4:Below W.heap.size W w4:=(hbb.trans ((below_alloc w3 (.cells #[.int .i64 n] 3)).mono sz2)).grown hgr (by simp;omega) hrow;have HO4:Hid (w4.ownsRow W.heap.size 3 1 (.slice a4 (i+1) c4) (i+1) ((l.take (i+1)).map (Value.int .i64))):=by
     unfold Hid;rw [← HQ.out,List.map_append];simp only [List.map_take,List.map_cons,List.map_nil];exact hown
    clear hown hgr ho2;go_wp2
    go_roundw
    case rel=>exact ⟨i+1,a4,c4,by go_num,rfl,by omega,HO4.out,hb4⟩
    case measure=>simp [intOf];omega
  · obtain rfl:i=n2:=by omega
    have HO:Hid (OwZ W.heap.size wr (.slice a i c) l):=by
     rw [List.take_of_length_le (by have:=HMl.out;omega)] at ho;unfold Hid OwZ;rw [HMl.out];exact ho
    clear ho;go_wp2
    go_ret2
    exact ⟨a,c,rfl,HO,hbr⟩
end
theorem justSo_any (n m:Int) (w:World):Calls Tryz.prog 109 #[.int .i64 n,.int .i64 m] w fun e w'=>e=.returned (.int .i64 (if n=m then 0 else 5))∧w'=w:=by
 by_cases h:n=m
 · have h1:(n==m)=true:=by rw [beq_iff_eq];exact h
   rw [if_pos h];go_enter Tryz.func109,Tryz.ntmps109;go_wp2
   go_ret
   exact ⟨rfl,rfl⟩
 · have h1:(n==m)=false:=by rw [beq_eq_false_iff_ne];exact h
   rw [if_neg h];go_enter Tryz.func109,Tryz.ntmps109;go_wp2
   go_ret
   exact ⟨rfl,rfl⟩
section
variable {D:Nat→Prop} {f:Nat} {w:World} {x1 x2 b1:Option Addr} {y1 y2 d1 pb:Nat} {q:Int}
theorem axis1_one (hp:w.cell? ⟨pb,0,none⟩=some (.slice b1 1 d1)):Calls Tryz.prog 138 #[.int .i64 1,.pointer (some ⟨pb,0,none⟩)] w fun e w'=>e=.returned (.int .i64 0)∧Below w.heap.size w w':=by
 go_enter Tryz.func138,Tryz.ntmps138
 go_wp2_with fail
 have C:=justSo_any 1 1 w;rw [if_pos rfl] at C;refine C.mono ?_;clear C;rintro e w1 ⟨rfl,hw⟩;obtain rfl:=hw.symm;go_wp2
 go_ret
 exact ⟨rfl,Below.refl _ _⟩
theorem wholes_one (hD:∀ g,D g→g<w.heap.size) (h0:-9223372036854775808≤q∧q≤9223372036854775807) (h:ArV (f+1) D w (.slice x1 0 y1) (.slice x2 1 y2) (arrT [] [wholeT q])) (hr:(measF 16 (arrT [] [wholeT q])).isSome=true) (hp:w.cell? ⟨pb,0,none⟩=some (.slice b1 1 d1)) (hpl:pb<w.heap.size) :
    Calls Tryz.prog 90 #[.agg #[.slice x1 0 y1,.slice x2 1 y2],.func (.func 138) #[] #[.pointer (some ⟨pb,0,none⟩)]] w fun e w'=>∃ a c,e=.returned (.tuple #[.slice a 1 c,.int .i64 0])∧Hid (OwZ w.heap.size w' (.slice a 1 c) [q])∧Below w.heap.size w w':=by
 have HD:Hid (∀ g,D g→g<w.heap.size):=hD;have H:Hid (ArV (f+1) D w (.slice x1 0 y1) (.slice x2 1 y2) (arrT [] [wholeT q])):=h;have HIN:Hid (∀ x∈[q],-9223372036854775808≤x∧x≤9223372036854775807):=fun x hx=>(List.mem_singleton.1 hx) ▸ h0;have HRT:Hid ((measF 16 (arrT [] [wholeT q])).isSome=true):=hr;have k0:=below_alloc w (.cells #[.slice x1 0 y1,.slice x2 1 y2] 25);have X0:=boxA_new w #[.slice x1 0 y1,.slice x2 1 y2] 25;have s0:(w.alloc (.cells #[.slice x1 0 y1,.slice x2 1 y2] 25)).heap.size=w.heap.size+1:=by simp
 have z0:=X0.cell 0 rfl;have z1:=X0.cell 1 rfl;have hsz:sizeF []=(1,0):=by decide
 have HP:Hid (w.cell? ⟨pb,0,none⟩=some (.slice b1 1 d1)):=hp;clear hD h hr hp;go_enter Tryz.func90,Tryz.ntmps90
 go_wp2_with fail
 generalize hAA:w.alloc (.cells #[.slice x1 0 y1,.slice x2 1 y2] 25)=v at *;clear hAA;have C1:=count6_any (w:=v) (sh:=[]) (x1:=x1) (y1:=y1) (x2:=x2) (n2:=1) (y2:=y2) (D:=D) (H.out.1.imp (fun _ h=>h) (Agree.of k0 HD.out)) (fun g hg=>by have:=HD.out g hg;omega);rw [hsz] at C1;simp only [List.length_nil] at C1;clear hsz;refine C1.mono ?_;rintro e w1 ⟨rfl,q1⟩;clear C1 z0 z1;have s1:=q1.size;have kw1:=k0.trans (q1.mono (by omega));have X1:=X0.below q1 (by omega);have z0:=X1.cell 0 rfl;have z1:=X1.cell 1 rfl;have P1:=(kw1.cell (p:=⟨pb,0,none⟩) hpl).trans HP.out;have C2:=axis1_one (w:=w1) P1
 go_wp2_with fail
 refine C2.mono ?_;clear z0 z1;rintro e w1' ⟨rfl,k1⟩;have s1':=k1.size;have kw1':=kw1.trans (k1.mono (by omega));clear C2;have X2:=X1.below k1 (by omega);have z0:=X2.cell 0 rfl;have z1:=X2.cell 1 rfl;have C3:=toInts_own (W:=w1') (l:=[q]) (s0:=arrT [] [wholeT q]) (n1:=0) (fun g hg=>by have:=HD.out g hg;omega) HIN.out (H.out.agree (Agree.of kw1' HD.out)) HRT.out (by omega) rfl (by show (sizeF []).1≠0;decide);simp only [List.length_singleton] at C3
 go_wp2_with fail
 refine C3.mono ?_;rintro e w2 ⟨a,c,rfl,hr,q2⟩;have HR:Hid (OwZ w1'.heap.size w2 (.slice a 1 c) [q]):=hr.out;clear C3 hr;have szw:=kw1'.size;go_wp2
 go_ret2
 exact ⟨a,c,rfl,HR.out.weaken (by omega),kw1'.trans (q2.mono (by omega))⟩
end
/-- A number that is cut to what an axis may have. -/
def cutN (q:Int):Int:=max (-4097) (min q 4097)
theorem one_form {base:Nat} {w:World} {a:Option Addr} {c:Nat} {q:Int} (h:OwZ base w (.slice a 1 c) [q]):∃ g,a=some ⟨g,0,none⟩∧base≤g∧g<w.heap.size:=by
 obtain ⟨g,c',e⟩:=ownsRow_succ (k:=0) h
 cases e
 exact ⟨g,rfl,row_own h g rfl⟩
section
variable {D:Nat→Prop} {f:Nat} {w:World} {x1 x2 a1 a2:Option Addr} {y1 y2 n2 b1 b2:Nat} {q:Int}
theorem perAxis_vec (hD:∀ g,D g→g<w.heap.size) (h0:-9223372036854775808≤q∧q≤9223372036854775807) (hS:ArV (f+1) D w (.slice a1 0 b1) (.slice a2 1 b2) (arrT [] [wholeT q])) (hr:(measF 16 (arrT [] [wholeT q])).isSome=true) :
    Calls Tryz.prog 97 #[.agg #[.slice a1 0 b1,.slice a2 1 b2],.agg #[.slice x1 1 y1,.slice x2 n2 y2]] w fun e w'=>∃ a c,e=.returned (.tuple #[.slice a 1 c,.agg #[.slice x1 1 y1,.slice x2 n2 y2],.int .i64 0])∧Hid (OwZ w.heap.size w' (.slice a 1 c) [cutN q])∧Below w.heap.size w w':=by
 have HD:Hid (∀ g,D g→g<w.heap.size):=hD;have HS:Hid (ArV (f+1) D w (.slice a1 0 b1) (.slice a2 1 b2) (arrT [] [wholeT q])):=hS;have HQ:Hid (-9223372036854775808≤q∧q≤9223372036854775807):=h0;have HRT:Hid ((measF 16 (arrT [] [wholeT q])).isSome=true):=hr;have k0:=below_alloc w (.cells #[.slice a1 0 b1,.slice a2 1 b2] 25);have S0:=boxA_new w #[.slice a1 0 b1,.slice a2 1 b2] 25;have k1:=below_alloc (w.alloc (.cells #[.slice a1 0 b1,.slice a2 1 b2] 25)) (.cells #[.slice x1 1 y1,.slice x2 n2 y2] 25);have X0:=boxA_new (w.alloc (.cells #[.slice a1 0 b1,.slice a2 1 b2] 25)) #[.slice x1 1 y1,.slice x2 n2 y2] 25;have k2:=below_alloc ((w.alloc (.cells #[.slice a1 0 b1,.slice a2 1 b2] 25)).alloc (.cells #[.slice x1 1 y1,.slice x2 n2 y2] 25)) (.cells #[.slice none 0 0,.slice none 0 0] 25);have R0:=boxA_new ((w.alloc (.cells #[.slice a1 0 b1,.slice a2 1 b2] 25)).alloc (.cells #[.slice x1 1 y1,.slice x2 n2 y2] 25)) #[.slice none 0 0,.slice none 0 0] 25;have S1:=(S0.below k1 (by simp)).below k2 (by simp;omega);have X1:=X0.below k2 (by simp);have kv:Below w.heap.size w _:=(k0.trans (k1.mono (by simp))).trans (k2.mono (by simp;omega));have sv:(((w.alloc (.cells #[.slice a1 0 b1,.slice a2 1 b2] 25)).alloc (.cells #[.slice x1 1 y1,.slice x2 n2 y2] 25)).alloc (.cells #[.slice none 0 0,.slice none 0 0] 25)).heap.size=w.heap.size+1+1+1:=by simp
 rw [World.size_alloc] at X1;rw [World.size_alloc,World.size_alloc] at R0;have z0:=S1.cell 0 rfl;have z1:=S1.cell 1 rfl;clear hD h0 hS hr k0 k1 k2 X0 S0;go_enter Tryz.func97,Tryz.ntmps97
 go_wp2_with fail
 generalize hAA:((w.alloc (.cells #[.slice a1 0 b1,.slice a2 1 b2] 25)).alloc (.cells #[.slice x1 1 y1,.slice x2 n2 y2] 25)).alloc (.cells #[.slice none 0 0,.slice none 0 0] 25)=v at *;clear hAA;have C1:=wholes_one (w:=v) (pb:=w.heap.size+1) (fun g hg=>by have:=HD.out g hg;omega) HQ.out (HS.out.agree (Agree.of kv HD.out)) HRT.out (X1.cell 0 rfl) X1.lt;refine C1.mono ?_;rintro e w1 ⟨a,c,rfl,hr,q1⟩;have HR:Hid (OwZ v.heap.size w1 (.slice a 1 c) [q]):=hr.out;clear C1 hr z0 z1;have s1:=q1.size;have kw1:=kv.trans (q1.mono (by omega));have X2:=X1.below q1 (by omega);have R2:=R0.below q1 (by omega);have z0:=X2.cell 0 rfl;have z1:=X2.cell 1 rfl
 go_wp2_with fail
 obtain ⟨g,rfl,hgv⟩:=one_form HR.out
 go_loopw [32] (fun iv wr=>∃ (i:Nat) (p:Int),iv=.int .i64 i∧i≤1∧Hid ((i=0→p=q)∧(i=1→p=cutN q))∧Hid (OwZ v.heap.size wr (.slice (some ⟨g,0,none⟩) 1 c) [p])∧BoxA wr (w.heap.size+1) 25 #[.slice x1 1 y1,.slice x2 n2 y2]∧BoxA wr (w.heap.size+1+1) 25 #[.slice none 0 0,.slice none 0 0]∧Below w.heap.size w wr) (fun iv _=>1 - (intOf iv).toNat)
 case atStart=>exact ⟨0,q,rfl,by omega,⟨fun _=>rfl,fun h=>by cases h⟩,HR,X2,R2,kw1⟩
 case round=>
  obtain ⟨i,p,rfl,hi,HP,HO,X3,R3,kr⟩:=hrel;have sr:=kr.size;by_cases hlt:i<1
  · obtain rfl:i=0:=by omega
    obtain rfl:=HP.out.1 rfl;have e0:wr.cell? ⟨g,0,none⟩=some (.int .i64 p):=World.ownsRow.cellAt HO.out 0 (by omega);have f0:=World.ownsRow.frozenAt HO.out 0
    go_wp2_with fail
    have hs:=(World.ownsRow.stored HO.out 0 (.int .i64 (max (-4097) (min p 4097)))).1
    go_roundw
    case rel=>exact ⟨1,cutN p,rfl,by omega,⟨fun h=>absurd h (by decide),fun _=>rfl⟩,hs,boxA_o X3 (p:=⟨g,0,none⟩) (show g≠w.heap.size+1 by omega) _,boxA_o R3 (p:=⟨g,0,none⟩) (show g≠w.heap.size+1+1 by omega) _,kr.setCell (p:=⟨g,0,none⟩) (show w.heap.size≤g by omega) _⟩
    case measure=>simp [intOf]
  · obtain rfl:i=1:=by omega
    have hpq:=HP.out.2 rfl;subst hpq;have z0:=X3.cell 0 rfl;have z1:=X3.cell 1 rfl;have r0:=R3.cell 0 rfl;have r1:=R3.cell 1 rfl;have f0:=R3.frozen 0;have f1:=R3.frozen 1
    go_wp2_with fail
    go_region
    have R4:=R3.set2 (.slice x1 1 y1) (.slice x2 n2 y2);have hs:=R4.cell 0 rfl;have ht:=R4.cell 1 rfl;have r2:(((wr.setCell ⟨w.heap.size+1+1,0,none⟩ (.slice x1 1 y1)).setCell ⟨w.heap.size+1+1,1,none⟩ (.slice x2 n2 y2)).drew).cell? ⟨w.heap.size+1+1,0,none⟩=some (.slice x1 1 y1):=hs;have r3:(((wr.setCell ⟨w.heap.size+1+1,0,none⟩ (.slice x1 1 y1)).setCell ⟨w.heap.size+1+1,1,none⟩ (.slice x2 n2 y2)).drew).cell? ⟨w.heap.size+1+1,1,none⟩=some (.slice x2 n2 y2):=ht;have kd:Below w.heap.size w (((wr.setCell ⟨w.heap.size+1+1,0,none⟩ (.slice x1 1 y1)).setCell ⟨w.heap.size+1+1,1,none⟩ (.slice x2 n2 y2)).drew):=by
     have h:=Below.set2 kr (show w.heap.size≤w.heap.size+1+1 by omega) (.slice x1 1 y1) (.slice x2 n2 y2);exact ⟨h.os,h.tape,h.output,h.size,h.block⟩
    have ho:OwZ w.heap.size (((wr.setCell ⟨w.heap.size+1+1,0,none⟩ (.slice x1 1 y1)).setCell ⟨w.heap.size+1+1,1,none⟩ (.slice x2 n2 y2)).drew) (.slice (some ⟨g,0,none⟩) 1 c) [cutN q]:=by
     have h1:=ownsRow_setCell_below (ownsRow_setCell_below HO.out (a:=⟨w.heap.size+1+1,0,none⟩) (show w.heap.size+1+1<v.heap.size by omega) (.slice x1 1 y1)) (a:=⟨w.heap.size+1+1,1,none⟩) (show w.heap.size+1+1<v.heap.size by omega) (.slice x2 n2 y2);exact OwZ.weaken (b:=v.heap.size) h1 (by omega)
    clear hs ht;go_wp2
    exact bodyPost_ret (v:=.tuple #[.slice (some ⟨g,0,none⟩) 1 c,.agg #[.slice x1 1 y1,.slice x2 n2 y2],.int .i64 0]) (by simp [results,Tryz.results97,go_sem,r2,r3]) rfl ⟨_,_,rfl,ho,kd⟩
end
end
end Go.Proofs.YtheaeggecpfcbaaGreat
