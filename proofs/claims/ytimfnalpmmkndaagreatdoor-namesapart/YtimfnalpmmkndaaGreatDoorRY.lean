/- (*glyphref11.Table).Erase. -/
import Derived.Test.YtimfnalpmmkndaaGreatDoorRX
set_option maxRecDepth 100000
set_option maxHeartbeats 16000000
set_option linter.unusedVariables false
set_option linter.unusedSimpArgs false
namespace Go.Proofs.YtimfnalpmmkndaaGreatDoor
open Go.RowKit
attribute [local go_sem] Oper.semAt_some
theorem RTab.wider {f:Nat} {D D':Nat→Prop} {w:World} {rb:Nat} (h:RTab f D w rb) (hD:∀ g,D g→D' g):RTab f D' w rb:=h.imp hD (fun _ _=>rfl) rfl
theorem Kp.cellK {B:Nat} {w w':World} (h:Kp B w w') {g o:Nat} (hg:g<w.heap.size) (hB:g≠B):w'.cell? ⟨g,o,none⟩=w.cell? ⟨g,o,none⟩:=World.cell?_of_block (w:=w) (h.block g hg hB)
section
variable {f:Nat} {D Da:Nat→Prop} {w:World} {rb:Nat}
theorem refErase_any {an:Option Addr} {cn:Nat} {ss:List ByteArray} (h:RTab f D w rb) (hD:∀ g,D g→g<w.heap.size∧g≠rb) (hN:RdT Da w (.slice an ss.length cn) ss) (hDa:∀ g,Da g→g<w.heap.size∧g≠rb) :
    Calls Tryz.prog 37 #[.pointer (some ⟨rb,0,none⟩),.slice an ss.length cn] w (RtAns f D w rb):=by
 have HT0:Hid (RTab f (DX D w w) w rb):=h.wider (fun _ h=>Or.inl h);have HD:Hid (∀ g,D g→g<w.heap.size∧g≠rb):=hD;have lrb:=h.one11;have hcap:ss.length≤9223372036854775807:=by
  obtain ⟨a',c',e,h1,h2,_⟩:=hN;omega
 have HN:Hid (RdT Da w (.slice an ss.length cn) ss):=hN;have HDa:Hid (∀ g,Da g→g<w.heap.size∧g≠rb):=hDa;clear h hD hN hDa;go_enter Tryz.func37,Tryz.ntmps37;go_wp2
 go_loopw [5,6] (fun nv iv wr=>∃ i n:Nat,nv=.int .i64 n∧iv=.int .i64 i∧i≤ss.length∧n≤i∧Hid (RTab f (DX D w wr) wr rb)∧Hid (Kp rb w wr)) (fun nv iv _=>ss.length - (intOf iv).toNat)
 case atStart=>exact ⟨0,0,rfl,rfl,Nat.zero_le _,Nat.le_refl _,HT0,Kp.refl _ _⟩
 case round=>
  obtain ⟨i,n,rfl,rfl,hi,hn,HT,HKP⟩:=hrel;obtain ⟨wo,rfl⟩:∃ wo:World,wo=wr:=⟨wr,rfl⟩;by_cases hlt:i<ss.length
  · have i1:(i:Int)<(ss.length:Int):=by omega
    obtain ⟨gn,o,rfl,hgn,hc⟩:∃ gn o,an=some ⟨gn,o,none⟩∧Da gn∧∀ j,j<ss.length→w.cell? ⟨gn,o+j,none⟩=some (.string (ss.getD j noT)):=by
     obtain ⟨a',c',e,_,_,_,h4⟩:=HN.out;obtain ⟨rfl,_,_⟩:=Value.slice.inj e;rcases h4 with h4 | h4
     · subst h4;simp at hlt
     · exact h4
    obtain ⟨lgn,ngn⟩:=HDa.out gn hgn;have sr:=HKP.out.size;have q:wo.cell? ⟨gn,o+i,none⟩=some (.string (ss.getD i noT)):=by rw [← hc i hlt];exact HKP.out.cellK lgn ngn
    generalize ss.getD i noT=x at *;obtain ⟨a,c,R,hB,hR⟩:=HT.out;have hpos:=hR.pos;have hfew:=hR.few;obtain ⟨g,rfl,hgD,hgl,hcell⟩:=hR.row.ptr hpos;have HDX:Hid (∀ q,DX D w wo q→q<wo.heap.size∧q≠rb):=fun q hq=>by
     rcases hq with hq | hq
     · have:=HD.out q hq;exact ⟨by omega,this.2⟩
     · exact ⟨hq.2,by omega⟩
    have HR:Hid (RT f (DX D w wo) wo (.slice (some ⟨g,0,none⟩) R.length c) R):=hR;have HB:Hid (BoxA wo rb 83 #[.slice (some ⟨g,0,none⟩) R.length c]):=hB;clear hc hcell hgD hgn
    go_wp2_with fail
    refine (where_any x HB.out HR.out (fun q hq=>(HDX.out q hq).1)).mono ?_;rintro e w1 ⟨k,hk,rfl,rfl⟩;have hki:(k:Int)<(R.length:Int):=by omega
    have HK:Hid (k<R.length):=hk;obtain ⟨r0,hr0⟩:∃ r0,R.getD k rf0=r0:=⟨_,rfl⟩;have HR0:Hid (R.getD k rf0=r0):=hr0;clear hr0;have HCF:Hid (∀ V,Below wo.heap.size wo V→(fun V=>V.cell? ⟨rb,0,none⟩=some (.slice (some ⟨g,0,none⟩) R.length c)∧V.cell? ⟨g,k*2,none⟩=some (.slice r0.la r0.ls.length r0.lc)∧V.cell? ⟨g,k*2+1,none⟩=some (.slice r0.ea r0.E.length r0.ec)∧V.cell? ⟨gn,o+i,none⟩=some (.string x)) V):=fun V hV=>by
     have hB':=hB.below hV hB.lt;have hR':=hR.imp (fun _ h=>h) (fun q hq=>hV.block q (HDX.out q hq).1);obtain ⟨g',e,_,_,hc⟩:=hR'.row.ptr hpos
     cases e
     exact ⟨hB'.cell 0 rfl,by rw [hc _ (by omega)];exact (by have:=(rfRow_at HK.out).1;rw [HR0.out] at this;exact this),by rw [hc _ (by omega)];exact (by have:=(rfRow_at HK.out).2;rw [HR0.out] at this;exact this),by rw [hV.cell (p:=⟨gn,o+i,none⟩) (by show gn<_;omega)];exact q⟩
    clear hR hB
    go_upto_region 8 with fail
    go_cut [8,9] from 27 to 41 (fun p8 p9 wx=>∃ (kb:Nat) (r:Bool),p8=.pointer (some ⟨kb,0,none⟩)∧p9=.bool r∧Below wo.heap.size wo wx)
    case first=>
     refine wp_region_noPanic ?_;obtain ⟨v,hv⟩:∃ v,wo.drew=v:=⟨_,rfl⟩;have KV:Below wo.heap.size wo v:=by rw [← hv];exact (Below.refl _ _).drew
     have K0:Below v.heap.size v v:=Below.refl _ _;have KA:Below v.heap.size v (v.alloc (.cells bnd0 53)):=below_alloc v _;have HF:Hid (∀ V,Below v.heap.size v V→FrOK f (DX D w wo) V r0∧∀ q,DX D w wo q→q<V.heap.size):=fun V hV=>by
      have K:Below wo.heap.size wo V:=KV.trans (hV.mono KV.size);exact ⟨(show FrOK f (DX D w wo) wo r0 by rw [← HR0.out];exact HR.out.frame HK.out).imp (fun _ h=>h) (fun q hq=>K.block q (HDX.out q hq).1),fun q hq=>by have:=(HDX.out q hq).1;have:=K.size;omega⟩
     have HS:Hid (∀ V,Below v.heap.size v V→(fun V=>V.cell? ⟨rb,0,none⟩=some (.slice (some ⟨g,0,none⟩) R.length c)∧V.cell? ⟨g,k*2,none⟩=some (.slice r0.la r0.ls.length r0.lc)∧V.cell? ⟨g,k*2+1,none⟩=some (.slice r0.ea r0.E.length r0.ec)∧V.cell? ⟨gn,o+i,none⟩=some (.string x)) V):=fun V hV=>HCF.out V (KV.trans (hV.mono KV.size));refine wp_region_held_drew (S:=(fun V=>V.cell? ⟨rb,0,none⟩=some (.slice (some ⟨g,0,none⟩) R.length c)∧V.cell? ⟨g,k*2,none⟩=some (.slice r0.la r0.ls.length r0.lc)∧V.cell? ⟨g,k*2+1,none⟩=some (.slice r0.ea r0.E.length r0.ec)∧V.cell? ⟨gn,o+i,none⟩=some (.string x))) (by kernel_rfl) (by rw [hv];exact HS.out v K0) (fun hS => ?_);rw [hv] at hS ⊢;clear hv;refine tk (i:=0) (v:=.pointer (some ⟨rb,0,none⟩)) ?_;simp only [Act.put,zA,z0Z,z1Z];refine tk (i:=1) (v:=.pointer (some ⟨rb,0,none⟩)) ?_;simp only [Act.put,zA,z0Z,z1Z];refine tk (i:=2) (v:=.pointer (some ⟨rb,0,none⟩)) ?_;simp only [Act.put,zA,z0Z,z1Z];refine tk (i:=3) (v:=.slice (some ⟨g,0,none⟩) R.length c) ?_;simp only [Act.put,zA,z0Z,z1Z];refine tk (i:=4) (v:=.int .i64 k) ?_;simp only [Act.put,zA,z0Z,z1Z];refine tk (i:=5) (v:=.pointer (some ⟨g,k*2,none⟩)) ?_;simp only [Act.put,zA,z0Z,z1Z];refine tk (i:=6) (v:=.agg #[.slice r0.la r0.ls.length r0.lc,.slice r0.ea r0.E.length r0.ec]) ?_;simp only [Act.put,zA,z0Z,z1Z];refine tk (i:=7) (v:=.slice (some ⟨gn,o,none⟩) ss.length cn) ?_;simp only [Act.put,zA,z0Z,z1Z];refine tk (i:=8) (v:=.int .i64 i) ?_;simp only [Act.put,zA,z0Z,z1Z];refine tk (i:=9) (v:=.pointer (some ⟨gn,o+i,none⟩)) ?_;simp only [Act.put,zA,z0Z,z1Z];refine tk (i:=10) (v:=.string x) ?_;simp only [Act.put,zA,z0Z,z1Z];refine wpAnyH_ready (rs:=[11,15]) (by kernel_rfl) (by simp) ?_;refine (AllReadyH.cons rfl (fun K hK => ?_) (AllReadyH.cons rfl (fun K hK => ?_) AllReadyH.nil))
     · go_simp
       refine (find_any (r:=r0) x ((HF.out v K0).1) (HF.out v K0).2).mono ?_;rintro e w2 ⟨y,r,rfl,_,kf⟩;have s2:=kf.size;have K2:Below v.heap.size v w2:=K0.trans (kf.mono (by have:=K0.size;omega));have K3:Below v.heap.size v (w2.alloc (.cells bnd0 53)):=K2.alloc K2.size _;have K4:Below v.heap.size v (w2.alloc (.cells y.cells 53)):=K2.alloc K2.size _;go_simp
       refine hK.out _ _ (HS.out _ K2) (fun _ => ?_);clear hK K;refine tk (i:=12) (v:=.tuple #[.agg y.cells,.bool r]) ?_;simp only [Act.put,zA,z0Z,z1Z];refine tk (i:=13) (v:=.agg y.cells) ?_;simp only [Act.put,zA,z0Z,z1Z];refine tk (i:=14) (v:=.bool r) ?_;simp only [Act.put,zA,z0Z,z1Z];refine wpAnyH_ready (rs:=[15]) (by kernel_rfl) (by simp) ?_;refine (AllReadyH.cons rfl (fun K hK => ?_) AllReadyH.nil);go_simp
       go_simp
       refine hK.out _ _ (HS.out _ K3) (fun _ => ?_);clear hK K;refine wpAnyH_ready (rs:=[16]) (by kernel_rfl) (by simp) ?_;refine (AllReadyH.cons rfl (fun K hK => ?_) AllReadyH.nil);go_simp
       go_simp
       refine hK.out _ _ (HS.out _ K4) (fun _ => ?_);clear hK K;refine tk (i:=17) (oi:={ dst:=some 9,op:=Op.assign (Operand.tmp 41),type:=4,pos:= "ref.go:202",after:=#[{ on:=14,ground:=Ground.data },{ on:=16,ground:=Ground.chain },{ on:=0,ground:=Ground.phase },{ on:=1,ground:=Ground.phase },{ on:=2,ground:=Ground.phase },{ on:=3,ground:=Ground.phase },{ on:=4,ground:=Ground.phase },{ on:=5,ground:=Ground.phase },{ on:=6,ground:=Ground.phase },{ on:=7,ground:=Ground.phase },{ on:=8,ground:=Ground.phase },{ on:=9,ground:=Ground.phase },{ on:=10,ground:=Ground.phase },{ on:=11,ground:=Ground.phase },{ on:=12,ground:=Ground.phase },{ on:=13,ground:=Ground.phase },{ on:=14,ground:=Ground.phase },{ on:=15,ground:=Ground.phase },{ on:=16,ground:=Ground.phase }],guard:=none }) (v:=.bool r) ?_;simp only [Act.put,zA,z0Z,z1Z];refine wpAnyH_done (by kernel_rfl) ?_ _;have HK4:Hid (Below wo.heap.size wo (w2.alloc (.cells y.cells 53))):=KV.trans (K4.mono KV.size);refine NoPanic.normal ?_
       go_wp2_with fail
       go_meet
       exact ⟨w2.heap.size,r,rfl,rfl,HK4.out⟩
     · go_simp
       go_simp
       refine hK.out _ _ (HS.out _ KA) (fun _ => ?_);clear hK K;refine wpAnyH_ready (rs:=[11]) (by kernel_rfl) (by simp) ?_;refine (AllReadyH.cons rfl (fun K hK => ?_) AllReadyH.nil);go_simp
       refine (find_any (r:=r0) x ((HF.out (v.alloc (.cells bnd0 53)) KA).1) (HF.out (v.alloc (.cells bnd0 53)) KA).2).mono ?_;rintro e w2 ⟨y,r,rfl,_,kf⟩;have s2:=kf.size;have K2:Below v.heap.size v w2:=KA.trans (kf.mono (by have:=KA.size;omega));have K3:Below v.heap.size v (w2.alloc (.cells bnd0 53)):=K2.alloc K2.size _;have K4:Below v.heap.size v (w2.alloc (.cells y.cells 53)):=K2.alloc K2.size _;have BA:=(boxA_new v bnd0 53).below kf (by simp);obtain ⟨n0,n1,n2,n3,n4,n5,n6,n7,n8,n9,n10,n11,n12⟩:=cells13 BA;obtain ⟨m0,m1,m2,m3,m4,m5,m6,m7,m8,m9,m10,m11,m12⟩:=frozen13 BA;go_simp
       refine hK.out _ _ (HS.out _ K2) (fun _ => ?_);clear hK K;refine tk (i:=12) (v:=.tuple #[.agg y.cells,.bool r]) ?_;simp only [Act.put,zA,z0Z,z1Z];refine tk (i:=13) (v:=.agg y.cells) ?_;simp only [Act.put,zA,z0Z,z1Z];refine tk (i:=14) (v:=.bool r) ?_;simp only [Act.put,zA,z0Z,z1Z];refine wpAnyH_ready (rs:=[16]) (by kernel_rfl) (by simp) ?_;refine (AllReadyH.cons rfl (fun K hK => ?_) AllReadyH.nil);go_simp
       go_simp
       refine hK.out _ _ (HS.out _ (below13 (R:=v.heap.size) K2 (Nat.le_refl _) (.int .i64 y.k) (.slice y.a1 y.n1 y.y1) (.slice y.a2 y.n2 y.y2) (.string y.s1) (.string y.s2) (.string y.s3) (.string y.s4) (.slice y.b1 y.m1 y.z1) (.slice y.b2 y.m2 y.z2) (.slice y.b3 y.m3 y.z3) (.slice y.b4 y.m4 y.z4) (.bool y.br) (.int .i64 y.ln))) (fun _ => ?_);clear hK K;refine tk (i:=17) (oi:={ dst:=some 9,op:=Op.assign (Operand.tmp 41),type:=4,pos:= "ref.go:202",after:=#[{ on:=14,ground:=Ground.data },{ on:=16,ground:=Ground.chain },{ on:=0,ground:=Ground.phase },{ on:=1,ground:=Ground.phase },{ on:=2,ground:=Ground.phase },{ on:=3,ground:=Ground.phase },{ on:=4,ground:=Ground.phase },{ on:=5,ground:=Ground.phase },{ on:=6,ground:=Ground.phase },{ on:=7,ground:=Ground.phase },{ on:=8,ground:=Ground.phase },{ on:=9,ground:=Ground.phase },{ on:=10,ground:=Ground.phase },{ on:=11,ground:=Ground.phase },{ on:=12,ground:=Ground.phase },{ on:=13,ground:=Ground.phase },{ on:=14,ground:=Ground.phase },{ on:=15,ground:=Ground.phase },{ on:=16,ground:=Ground.phase }],guard:=none }) (v:=.bool r) ?_;simp only [Act.put,zA,z0Z,z1Z];refine wpAnyH_done (by kernel_rfl) ?_ _;obtain ⟨wz,hwz,Z,KZ,hzs⟩:=put13 BA K2 (Nat.le_refl _) (.int .i64 y.k) (.slice y.a1 y.n1 y.y1) (.slice y.a2 y.n2 y.y2) (.string y.s1) (.string y.s2) (.string y.s3) (.string y.s4) (.slice y.b1 y.m1 y.z1) (.slice y.b2 y.m2 y.z2) (.slice y.b3 y.m3 y.z3) (.slice y.b4 y.m4 y.z4) (.bool y.br) (.int .i64 y.ln);dsimp only [ch13] at hwz;have HK4:Hid (Below wo.heap.size wo wz):=KV.trans (KZ.mono KV.size);rw [hwz];clear hwz;refine NoPanic.normal ?_
       go_wp2_with fail
       go_meet
       exact ⟨v.heap.size,r,rfl,rfl,HK4.out⟩
    case rest=>
     obtain ⟨kb,r,rfl,rfl,kc⟩:=hcut;have sc:=kc.size;have HTC:Hid (RTab f (DX D w wc) wc rb):=HT.out.imp (fun q hq=>by
      rcases hq with hq | hq
      · exact Or.inl hq
      · exact Or.inr ⟨hq.1,by have:=hq.2;omega⟩) (fun q hq=>kc.block q (HDX.out q hq).1) (kc.block rb (by omega))
     have HKC:Hid (Kp rb w wc):=HKP.out.trans (Kp.of_below kc);have HI:Hid (i+1≤ss.length):=by unfold Hid;omega
     have HNI:Hid (n≤i):=hn
     cases r with
     | false=>
      go_wp2
      go_roundw
      case rel=>exact ⟨i+1,n,rfl,by go_num,HI.out,(by have:=HNI.out;omega),HTC,HKC⟩
      case measure=>have:=HI.out;simp [intOf];omega
     | true=>
      have HRC:Hid (RT f (DX D w wo) wc (.slice (some ⟨g,0,none⟩) R.length c) R):=HR.out.imp (fun _ h=>h) (fun q hq=>kc.block q (HDX.out q hq).1);have HBC:Hid (BoxA wc rb 83 #[.slice (some ⟨g,0,none⟩) R.length c]):=HB.out.below kc HB.out.lt;have HDC:Hid (∀ q,DX D w wo q→q<wc.heap.size∧q≠rb):=fun q hq=>⟨by have:=(HDX.out q hq).1;omega,(HDX.out q hq).2⟩;have HFR:Hid (FrOK f (DX D w wo) wc r0):=by rw [← HR0.out];exact HRC.out.frame HK.out
      have hE5:=HFR.out.few;have hw5:IntKind.i64.wrap ((n:Int)+1)=((n+1:Nat):Int):=by rw [IntKind.wrap_i64];omega
      have HCC:Hid (∀ V,Below wc.heap.size wc V→(fun V=>V.cell? ⟨rb,0,none⟩=some (.slice (some ⟨g,0,none⟩) R.length c)∧V.cell? ⟨g,k*2,none⟩=some (.slice r0.la r0.ls.length r0.lc)∧V.cell? ⟨g,k*2+1,none⟩=some (.slice r0.ea r0.E.length r0.ec)∧V.cell? ⟨gn,o+i,none⟩=some (.string x)) V):=fun V hV=>HCF.out V (kc.trans (hV.mono sc));have HN1:Hid (n+1≤i+1):=by unfold Hid;omega
      clear hn HNI;generalize n+1=n1 at *
      go_wp2_with fail
      go_loopw [10,11] (fun nx jv wq=>∃ (j:Nat) (E':List EV) (a8:Option Addr) (c8:Nat),nx=.slice a8 E'.length c8∧jv=.int .i64 j∧j≤r0.E.length∧E'.length≤j∧Hid (wq.ownsRow wc.heap.size 128 14 (.slice a8 E'.length c8) E'.length (evRow E'))∧Hid (∀ p∈E',GoodB f (DX D w wo) wc p.2)∧Below wc.heap.size wc wq) (fun nx jv _=>r0.E.length - (intOf jv).toNat)
      case atStart=>exact ⟨0,[],none,0,rfl,rfl,Nat.zero_le _,Nat.le_refl _,World.ownsRow_nil _ _ _ _,(fun p hp=>by cases hp),Below.refl _ _⟩
      case round=>
       obtain ⟨j,E',a8,c8,rfl,rfl,hj,hEj,HO,HE,kq⟩:=hrel;obtain ⟨wq,rfl⟩:∃ wq:World,wq=wr:=⟨wr,rfl⟩;have kwq:=kc.trans (kq.mono sc);have sq0:=kq.size;obtain ⟨c0,_,cF,cN⟩:=HCC.out wq kq;by_cases hlt2:j<r0.E.length
       · have j1:(j:Int)<(r0.E.length:Int):=by omega
         obtain ⟨ge,hgp,hgD,hgl2,hcell⟩:=HFR.out.row.ptr (by omega);have hatV:∀ V,Below wc.heap.size wc V→∀ q,q<14→V.cell? ⟨ge,j*14+q,none⟩=(EV.cells (r0.E.getD j ev0))[q]?:=fun V hV q hq=>by rw [hV.cell (p:=⟨ge,j*14+q,none⟩) hgl2,hcell _ (by omega)];exact evRow_at hlt2 hq
         obtain ⟨p,hp⟩:∃ p,r0.E.getD j ev0=p:=⟨_,rfl⟩;have HGP:Hid (GoodB f (DX D w wo) wc p.2):=by rw [← hp];exact HFR.out.good _ (getD_memE hlt2)
         rw [hp] at hatV;clear hp hcell;rw [hgp] at cF;have hat:=hatV wq kq;have q0:wq.cell? ⟨ge,j*14,none⟩=some (.string p.1):=hat 0 (by omega);have kd:Below wc.heap.size wc wq.drew:=kq.drew;have HOd:Hid (wq.drew.ownsRow wc.heap.size 128 14 (.slice a8 E'.length c8) E'.length (evRow E')):=World.ownsRow.drew HO.out;have hst:=same_textR p.1 x;have HJ:Hid (j+1≤r0.E.length):=by unfold Hid;omega
         have HEJ:Hid (E'.length≤j):=hEj;have hatd:=hatV wq.drew kd;obtain ⟨C0,_,CF,CN⟩:=HCC.out wq.drew kd;rw [hgp] at CF;have Q0:wq.drew.cell? ⟨ge,j*14,none⟩=some (.string p.1):=hatd 0 (by omega);have HAT:Hid (∀ q,q<14→wq.drew.cell? ⟨ge,j*14+q,none⟩=(EV.cells p)[q]?):=hatd;clear hatV hat hatd HO hEj
         go_upto_region 15 with fail
         by_cases hx:p.1=x
         · rw [decide_eq_true hx] at hst
           clear hx
           go_region
           clear C0 CF CN Q0;generalize wq.drew=wd at *;go_wp2
           go_roundw
           case rel=>exact ⟨j+1,E',a8,c8,rfl,by go_num,HJ.out,(by have:=HEJ.out;omega),HOd,HE,kd⟩
           case measure=>have:=HJ.out;simp [intOf];omega
         · rw [decide_eq_false hx] at hst
           clear hx
           go_region
           clear q0 C0 CF CN Q0;generalize wq.drew=wd at *;have hatd:=HAT.out;obtain ⟨c0d,_,cFd,cNd⟩:=HCC.out wd kd;rw [hgp] at cFd;have d0:wd.cell? ⟨ge,j*14,none⟩=some (.string p.1):=hatd 0 (by omega);have d1:wd.cell? ⟨ge,j*14+1,none⟩=some (.int .i64 p.2.k):=hatd 1 (by omega);have d2:wd.cell? ⟨ge,j*14+2,none⟩=some (.slice p.2.a1 p.2.n1 p.2.y1):=hatd 2 (by omega);have d3:wd.cell? ⟨ge,j*14+3,none⟩=some (.slice p.2.a2 p.2.n2 p.2.y2):=hatd 3 (by omega);have d4:wd.cell? ⟨ge,j*14+4,none⟩=some (.string p.2.s1):=hatd 4 (by omega);have d5:wd.cell? ⟨ge,j*14+5,none⟩=some (.string p.2.s2):=hatd 5 (by omega);have d6:wd.cell? ⟨ge,j*14+6,none⟩=some (.string p.2.s3):=hatd 6 (by omega);have d7:wd.cell? ⟨ge,j*14+7,none⟩=some (.string p.2.s4):=hatd 7 (by omega);have d8:wd.cell? ⟨ge,j*14+8,none⟩=some (.slice p.2.b1 p.2.m1 p.2.z1):=hatd 8 (by omega);have d9:wd.cell? ⟨ge,j*14+9,none⟩=some (.slice p.2.b2 p.2.m2 p.2.z2):=hatd 9 (by omega);have d10:wd.cell? ⟨ge,j*14+10,none⟩=some (.slice p.2.b3 p.2.m3 p.2.z3):=hatd 10 (by omega);have d11:wd.cell? ⟨ge,j*14+11,none⟩=some (.slice p.2.b4 p.2.m4 p.2.z4):=hatd 11 (by omega);have d12:wd.cell? ⟨ge,j*14+12,none⟩=some (.bool p.2.br):=hatd 12 (by omega);have d13:wd.cell? ⟨ge,j*14+13,none⟩=some (.int .i64 p.2.ln):=hatd 13 (by omega);clear hatd;have HOA:Hid ((wd.alloc (.cells (EV.cellsA p) 128)).ownsRow wc.heap.size 128 14 (.slice a8 E'.length c8) E'.length (evRow E')):=World.ownsRow.alloc HOd.out _;have HBX:Hid (BoxA (wd.alloc (.cells (EV.cellsA p) 128)) wd.heap.size 128 (EV.cellsA p)):=boxA_new _ _ _;have KAA:Below wc.heap.size wc (wd.alloc (.cells (EV.cellsA p) 128)):=kd.alloc kd.size _;have hl9:E'.length≤1000:=by have:=HEJ.out;have:=HJ.out;omega
           go_wp2_with (at_builtin;refine append_ev (p:=p) rfl _ _ rfl rfl rfl HOA.out HBX.out hl9 KAA.size ?_)
           intro a9 c9 w3 hrow hg3;have K3:Below wc.heap.size wc w3:=KAA.grown hg3 KAA.size (fun k hk=>(row_own HOA.out k hk).1);have HL3:Hid ((E'++[p]).length=E'.length+1):=by unfold Hid;simp
           have HO3:Hid (w3.ownsRow wc.heap.size 128 14 (.slice a9 (E'++[p]).length c9) (E'++[p]).length (evRow (E'++[p]))):=by unfold Hid;rw [HL3.out];exact hrow
           have HE3:Hid (∀ q∈E'++[p],GoodB f (DX D w wo) wc q.2):=fun q hq=>by
            rcases List.mem_append.1 hq with h | h
            · exact HE.out q h
            · rw [List.mem_singleton.1 h];exact HGP.out
           have HLJ:Hid ((E'++[p]).length≤j+1):=by unfold Hid;rw [HL3.out];have:=HEJ.out;omega
           clear hrow hg3 HOA HBX hl9 KAA;rw [← HL3.out];clear HL3;generalize E'++[p]=E2 at *;go_wp2
           go_roundw
           case rel=>exact ⟨j+1,E2,a9,c9,rfl,by go_num,HJ.out,HLJ.out,HO3,HE3,K3⟩
           case measure=>have:=HJ.out;simp [intOf];omega
       · have j1:¬ (j:Int)<(r0.E.length:Int):=by omega
         have h512:E'.length≤512:=by omega
         have TR:=(HRC.out.imp (fun _ h=>h) (fun q hq=>kq.block q (HDC.out q hq).1)).row;have TB:=HBC.out.below kq HBC.out.lt
         go_wp2_with (at_builtin;refine append_nilF rfl _ _ rfl rfl rfl TR hpos (by omega) ?_)
         intro gl cl w2 hgl hfr k2;have s2:=k2.size;have sq:=kq.size;have lgl:=(row_own hfr gl rfl).2;have fc:=hfr.cellAt (k*2+1) (by have:=HK.out;omega);rw [(rfRow_at HK.out).2] at fc;have ff:=hfr.frozenAt (k*2+1);have BT:=TB.below k2 TB.lt;have bc:=BT.cell 0 rfl;have bf:=BT.frozen 0;have HTT:=RTab.turned (f:=f) HRC.out HBC.out HDC.out HK.out HE.out h512 kq HO.out k2 hgl hfr;obtain ⟨W5,hW5⟩:∃ W5,(w2.setCell ⟨gl,k*2+1,none⟩ (.slice a8 E'.length c8)).setCell ⟨rb,0,none⟩ (.slice (some ⟨gl,0,none⟩) R.length cl)=W5:=⟨_,rfl⟩;rw [hW5] at HTT;have HT5:Hid (RTab f (DX D w W5) W5 rb):=HTT.1.wider (fun q hq=>by
          have s5:=HTT.2.size;rcases hq with (hq | hq) | hq
          · exact Or.inl hq
          · exact Or.inr ⟨hq.1,by have:=hq.2;omega⟩
          · exact Or.inr ⟨by omega,hq.2⟩)
         have HK5:Hid (Kp rb w W5):=HKC.out.trans HTT.2;have HKI:Hid (k<R.length):=HK.out;have nrb:¬ gl=rb:=by have:=TB.lt;omega
         have nrb2:¬ rb=gl:=fun e=>nrb e.symm;clear TR hfr HTT k2 c0 cF;go_wp2
         go_roundw
         case rel=>exact ⟨i+1,n1,rfl,by go_num,HI.out,HN1.out,HT5,HK5⟩
         case measure=>have:=HI.out;simp [intOf];omega
  · have i1:¬ (i:Int)<(ss.length:Int):=by omega
    have HF:Hid (RtAns f D w rb (.returned (.int .i64 n)) wo):=⟨n,rfl,HT.out,HKP.out⟩;go_wp2
    go_ret
    exact HF.out
end
end Go.Proofs.YtimfnalpmmkndaaGreatDoor
