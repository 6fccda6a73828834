/- (*glyphref11.Table).Get and Class: they answer, and turn nothing. -/
import Derived.Test.YtimfnalpmmkndaaGreatDoorRU
import Derived.Test.YtimfnalpmmkndaaGreatDoorRV
set_option maxRecDepth 100000
set_option maxHeartbeats 16000000
set_option linter.unusedVariables false
set_option linter.unusedSimpArgs false
namespace Go.Proofs.YtimfnalpmmkndaaGreatDoor
section
open Go.RowKit
attribute [local go_sem] Oper.semAt_some
def SGet (rb g c:Nat) (R:List RF) (V:World):Prop:=V.cell? ⟨rb,0,none⟩=some (.slice (some ⟨g,0,none⟩) R.length c)∧∀ i,i<R.length→V.cell? ⟨g,i*2,none⟩=some (.slice (R.getD i rf0).la (R.getD i rf0).ls.length (R.getD i rf0).lc)∧V.cell? ⟨g,i*2+1,none⟩=some (.slice (R.getD i rf0).ea (R.getD i rf0).E.length (R.getD i rf0).ec)
def ToldB (w:World) (e:Ending) (w':World):Prop:=∃ (y:BV) (r:Bool),e=.returned (.tuple #[.agg y.cells,.bool r])∧Below w.heap.size w w'
section
variable {f:Nat} {D:Nat→Prop} {w:World} {rb:Nat} {a:Option Addr} {c:Nat} {R:List RF}
theorem refGet_any (x:ByteArray) (hB:BoxA w rb 83 #[.slice a R.length c]) (hR:RT f D w (.slice a R.length c) R) (hD:∀ g,D g→g<w.heap.size) :
    Calls Tryz.prog 104 #[.pointer (some ⟨rb,0,none⟩),.string x] w (ToldB w):=by
 obtain ⟨g,rfl,hgD,hgl,hcell⟩:=hR.row.ptr hR.pos;have e1:=below_alloc w (.cells bnd0 53);have B1:=boxA_new w bnd0 53;have HL:Hid (RT f D w (.slice (some ⟨g,0,none⟩) R.length c) R):=hR;have hlen:=hR.few;have HSW:Hid (SGet rb g c R w):=⟨hB.cell 0 rfl,fun i hi=>⟨by rw [hcell _ (by omega)];exact (rfRow_at hi).1,by rw [hcell _ (by omega)];exact (rfRow_at hi).2⟩⟩;have HBW:Hid (BoxA w rb 83 #[.slice (some ⟨g,0,none⟩) R.length c]):=hB;have HD:Hid (∀ g,D g→g<w.heap.size):=hD;have lrb:=hB.lt;clear hR hB hD hcell hgD;go_enter Tryz.func104,Tryz.ntmps104
 go_upto_region 3 with fail
 obtain ⟨v0,hv0⟩:∃ v0,w.alloc (.cells bnd0 53)=v0:=⟨_,rfl⟩;rw [hv0] at e1 B1 ⊢;have s0:v0.heap.size=w.heap.size+1:=by rw [← hv0];simp
 have HS0:Hid (v0.heap.size=w.heap.size+1):=s0;clear hv0 s0
 go_cut [6,7] from 11 to 24 (fun p6 p7 wx=>∃ (kb:Nat) (y:BV) (r:Bool),p6=.pointer (some ⟨kb,0,none⟩)∧p7=.bool r∧BoxA wx kb 53 y.cells∧GoodB f D wx y∧Below v0.heap.size v0 wx∧v0.heap.size≤kb)
 case first=>
  refine wp_region_noPanic ?_;obtain ⟨v,hv⟩:∃ v,v0.drew=v:=⟨_,rfl⟩;have SV:Hid (v.heap.size=v0.heap.size):=by unfold Hid;rw [← hv];rfl
  have KV:Below v0.heap.size v0 v:=by rw [← hv];exact (Below.refl _ _).drew
  have KW:Below w.heap.size w v:=by rw [← hv];exact e1.drew
  have K0:Below v.heap.size v v:=Below.refl _ _;have KA:Below v.heap.size v (v.alloc (.cells bnd0 53)):=below_alloc v _;have HF:Hid (∀ V,Below v.heap.size v V→BoxA V rb 83 #[.slice (some ⟨g,0,none⟩) R.length c]∧RT f D V (.slice (some ⟨g,0,none⟩) R.length c) R∧∀ g,D g→g<V.heap.size):=fun V hV=>by
   have t1:=hV.size;have t2:=HS0.out;have t4:=SV.out;have ag:∀ q,q<w.heap.size→V.heap[q]? = w.heap[q]?:=fun q hq=>(hV.block q (by omega)).trans (KW.block q hq);exact ⟨HBW.out.of_blk (ag rb lrb),HL.out.imp (fun _ h=>h) (fun q hq=>ag q (HD.out q hq)),fun q hq=>by have:=HD.out q hq;omega⟩
  have HS:Hid (∀ V,Below v.heap.size v V→(SGet rb g c R) V):=fun V hV=>by
   have t2:=HS0.out;have t3:=hV.size;have t4:=SV.out;have ag:∀ q i,q<w.heap.size→V.cell? ⟨q,i,none⟩=w.cell? ⟨q,i,none⟩:=fun q i hq=>(hV.cell (p:=⟨q,i,none⟩) (by show q<_;omega)).trans (KW.cell (p:=⟨q,i,none⟩) hq);exact ⟨by rw [ag rb 0 lrb];exact HSW.out.1,fun i hi=>⟨by rw [ag g _ hgl];exact (HSW.out.2 i hi).1,by rw [ag g _ hgl];exact (HSW.out.2 i hi).2⟩⟩
  refine wp_region_held_drew (S:=(SGet rb g c R)) (by kernel_rfl) (by rw [hv];exact HS.out v K0) (fun hS => ?_);rw [hv] at hS ⊢;clear hv;refine tk (i:=0) (v:=.pointer (some ⟨rb,0,none⟩)) ?_;simp only [Act.put,zA,z0Z,z1Z];refine tk (i:=1) (v:=.pointer (some ⟨rb,0,none⟩)) ?_;simp only [Act.put,zA,z0Z,z1Z];refine tk (i:=2) (v:=.pointer (some ⟨rb,0,none⟩)) ?_;simp only [Act.put,zA,z0Z,z1Z];refine wpAnyH_take (i:=3) (v:=.slice (some ⟨g,0,none⟩) R.length c) rfl (by kernel_rfl) (by kernel_rfl) (by kernel_rfl) (fun _ _ _ h=>h) (Or.inl ⟨by rfl,(by intro w hSw;have h1:=hSw.1;clear hSw;go_simp)⟩) (by assumption) ?_;simp only [Act.put,zA,z0Z,z1Z];refine tk (i:=4) (v:=.pointer (some ⟨rb,0,none⟩)) ?_;simp only [Act.put,zA,z0Z,z1Z];refine tk (i:=5) (v:=.string x) ?_;simp only [Act.put,zA,z0Z,z1Z];refine tk (i:=9) (v:=.string x) ?_;simp only [Act.put,zA,z0Z,z1Z];refine wpAnyH_ready (rs:=[6,14]) (by kernel_rfl) (by simp) ?_;refine (AllReadyH.cons rfl (fun K hK => ?_) (AllReadyH.cons rfl (fun K hK => ?_) AllReadyH.nil))
  · go_simp
    refine (where_any x (HF.out v K0).1 (HF.out v K0).2.1 (HF.out v K0).2.2).mono ?_;rintro e w1 ⟨k,hk,rfl,rfl⟩;have hki:(k:Int)<(R.length:Int):=by omega
    have HK:Hid (k<R.length):=hk;obtain ⟨r0,hr0⟩:∃ r0,R.getD k rf0=r0:=⟨_,rfl⟩;have HR0:Hid (R.getD k rf0=r0):=hr0;clear hr0;go_simp
    refine hK.out _ _ (HS.out _ K0) (fun _ => ?_);clear hK K;refine tk (i:=7) (v:=.pointer (some ⟨g,k*2,none⟩)) ?_;simp only [Act.put,zA,z0Z,z1Z];refine wpAnyH_take (i:=8) (v:=.agg #[.slice r0.la r0.ls.length r0.lc,.slice r0.ea r0.E.length r0.ec]) rfl (by kernel_rfl) (by kernel_rfl) (by kernel_rfl) (fun _ _ _ h=>h) (Or.inl ⟨by rfl,(by intro w hSw;obtain ⟨h1,h2⟩:=hSw.2 k HK.out;rw [HR0.out] at h1 h2;clear hSw;go_simp)⟩) (by assumption) ?_;simp only [Act.put,zA,z0Z,z1Z];refine wpAnyH_ready (rs:=[10,14]) (by kernel_rfl) (by simp) ?_;refine (AllReadyH.cons rfl (fun K hK => ?_) (AllReadyH.cons rfl (fun K hK => ?_) AllReadyH.nil))
    · go_simp
      refine (find_any (r:=r0) x (by rw [← HR0.out];exact (HF.out v K0).2.1.frame HK.out) (HF.out v K0).2.2).mono ?_;rintro e w2 ⟨y,r,rfl,hG,kf⟩;have HG:Hid (GoodB f D w2 y):=hG;have s2:=kf.size;have K2:Below v.heap.size v w2:=K0.trans (kf.mono (by have:=K0.size;omega));have K3:Below v.heap.size v (w2.alloc (.cells bnd0 53)):=K2.alloc K2.size _;have K4:Below v.heap.size v (w2.alloc (.cells y.cells 53)):=K2.alloc K2.size _;clear hG;go_simp
      refine hK.out _ _ (HS.out _ K2) (fun _ => ?_);clear hK K;refine tk (i:=11) (v:=.tuple #[.agg y.cells,.bool r]) ?_;simp only [Act.put,zA,z0Z,z1Z];refine tk (i:=12) (v:=.agg y.cells) ?_;simp only [Act.put,zA,z0Z,z1Z];refine tk (i:=13) (v:=.bool r) ?_;simp only [Act.put,zA,z0Z,z1Z];refine wpAnyH_ready (rs:=[14]) (by kernel_rfl) (by simp) ?_;refine (AllReadyH.cons rfl (fun K hK => ?_) AllReadyH.nil);go_simp
      go_simp
      refine hK.out _ _ (HS.out _ K3) (fun _ => ?_);clear hK K;refine wpAnyH_ready (rs:=[15]) (by kernel_rfl) (by simp) ?_;refine (AllReadyH.cons rfl (fun K hK => ?_) AllReadyH.nil);go_simp
      go_simp
      refine hK.out _ _ (HS.out _ K4) (fun _ => ?_);clear hK K;refine tk (i:=16) (oi:={ dst:=some 7,op:=Op.assign (Operand.tmp 24),type:=4,pos:= "ref.go:98",after:=#[{ on:=13,ground:=Ground.data },{ on:=15,ground:=Ground.chain },{ on:=0,ground:=Ground.phase },{ on:=1,ground:=Ground.phase },{ on:=2,ground:=Ground.phase },{ on:=3,ground:=Ground.phase },{ on:=4,ground:=Ground.phase },{ on:=5,ground:=Ground.phase },{ on:=6,ground:=Ground.phase },{ on:=7,ground:=Ground.phase },{ on:=8,ground:=Ground.phase },{ on:=9,ground:=Ground.phase },{ on:=10,ground:=Ground.phase },{ on:=11,ground:=Ground.phase },{ on:=12,ground:=Ground.phase },{ on:=13,ground:=Ground.phase },{ on:=14,ground:=Ground.phase },{ on:=15,ground:=Ground.phase }],guard:=none }) (v:=.bool r) ?_;simp only [Act.put,zA,z0Z,z1Z];refine wpAnyH_done (by kernel_rfl) ?_ _;have Z:=boxA_new w2 y.cells 53;have HGZ:Hid (GoodB f D (w2.alloc (.cells y.cells 53)) y):=HG.out.imp (fun _ h=>h) (fun q hq=>(below_alloc w2 _).block q ((HF.out w2 K2).2.2 q hq));have HK4:Hid (Below v0.heap.size v0 (w2.alloc (.cells y.cells 53))∧v0.heap.size≤w2.heap.size):=⟨KV.trans (K4.mono (Nat.le_of_eq SV.out.symm)),by have:=SV.out;have:=K2.size;unfold Hid at *;omega⟩;refine NoPanic.normal ?_
      go_wp2_with fail
      go_meet
      exact ⟨w2.heap.size,y,r,rfl,rfl,Z,HGZ.out,HK4.out.1,HK4.out.2⟩
    · go_simp
      go_simp
      refine hK.out _ _ (HS.out _ KA) (fun _ => ?_);clear hK K;refine wpAnyH_ready (rs:=[10]) (by kernel_rfl) (by simp) ?_;refine (AllReadyH.cons rfl (fun K hK => ?_) AllReadyH.nil);go_simp
      refine (find_any (r:=r0) x (by rw [← HR0.out];exact (HF.out (v.alloc (.cells bnd0 53)) KA).2.1.frame HK.out) (HF.out (v.alloc (.cells bnd0 53)) KA).2.2).mono ?_;rintro e w2 ⟨y,r,rfl,hG,kf⟩;have HG:Hid (GoodB f D w2 y):=hG;have s2:=kf.size;have K2:Below v.heap.size v w2:=KA.trans (kf.mono (by have:=KA.size;omega));have K3:Below v.heap.size v (w2.alloc (.cells bnd0 53)):=K2.alloc K2.size _;have K4:Below v.heap.size v (w2.alloc (.cells y.cells 53)):=K2.alloc K2.size _;clear hG;have BA:=(boxA_new v bnd0 53).below kf (by simp);obtain ⟨n0,n1,n2,n3,n4,n5,n6,n7,n8,n9,n10,n11,n12⟩:=cells13 BA;obtain ⟨m0,m1,m2,m3,m4,m5,m6,m7,m8,m9,m10,m11,m12⟩:=frozen13 BA;go_simp
      refine hK.out _ _ (HS.out _ K2) (fun _ => ?_);clear hK K;refine tk (i:=11) (v:=.tuple #[.agg y.cells,.bool r]) ?_;simp only [Act.put,zA,z0Z,z1Z];refine tk (i:=12) (v:=.agg y.cells) ?_;simp only [Act.put,zA,z0Z,z1Z];refine tk (i:=13) (v:=.bool r) ?_;simp only [Act.put,zA,z0Z,z1Z];refine wpAnyH_ready (rs:=[15]) (by kernel_rfl) (by simp) ?_;refine (AllReadyH.cons rfl (fun K hK => ?_) AllReadyH.nil);go_simp
      go_simp
      refine hK.out _ _ (HS.out _ (below13 (R:=v.heap.size) K2 (Nat.le_refl _) (.int .i64 y.k) (.slice y.a1 y.n1 y.y1) (.slice y.a2 y.n2 y.y2) (.string y.s1) (.string y.s2) (.string y.s3) (.string y.s4) (.slice y.b1 y.m1 y.z1) (.slice y.b2 y.m2 y.z2) (.slice y.b3 y.m3 y.z3) (.slice y.b4 y.m4 y.z4) (.bool y.br) (.int .i64 y.ln))) (fun _ => ?_);clear hK K;refine tk (i:=16) (oi:={ dst:=some 7,op:=Op.assign (Operand.tmp 24),type:=4,pos:= "ref.go:98",after:=#[{ on:=13,ground:=Ground.data },{ on:=15,ground:=Ground.chain },{ on:=0,ground:=Ground.phase },{ on:=1,ground:=Ground.phase },{ on:=2,ground:=Ground.phase },{ on:=3,ground:=Ground.phase },{ on:=4,ground:=Ground.phase },{ on:=5,ground:=Ground.phase },{ on:=6,ground:=Ground.phase },{ on:=7,ground:=Ground.phase },{ on:=8,ground:=Ground.phase },{ on:=9,ground:=Ground.phase },{ on:=10,ground:=Ground.phase },{ on:=11,ground:=Ground.phase },{ on:=12,ground:=Ground.phase },{ on:=13,ground:=Ground.phase },{ on:=14,ground:=Ground.phase },{ on:=15,ground:=Ground.phase }],guard:=none }) (v:=.bool r) ?_;simp only [Act.put,zA,z0Z,z1Z];refine wpAnyH_done (by kernel_rfl) ?_ _;obtain ⟨wz,hwz,Z,KZ,hzs⟩:=put13 BA K2 (Nat.le_refl _) (.int .i64 y.k) (.slice y.a1 y.n1 y.y1) (.slice y.a2 y.n2 y.y2) (.string y.s1) (.string y.s2) (.string y.s3) (.string y.s4) (.slice y.b1 y.m1 y.z1) (.slice y.b2 y.m2 y.z2) (.slice y.b3 y.m3 y.z3) (.slice y.b4 y.m4 y.z4) (.bool y.br) (.int .i64 y.ln);have hoz:∀ q,¬ v.heap.size=q→wz.heap[q]? = w2.heap[q]?:=fun q hq=>by rw [← hwz,other13 hq]
      dsimp only [ch13] at hwz;have HGZ:Hid (GoodB f D wz y):=HG.out.imp (fun _ h=>h) (fun q hq=>hoz q (by have:=(HF.out v K0).2.2 q hq;omega));have HK4:Hid (Below v0.heap.size v0 wz∧v0.heap.size≤v.heap.size):=⟨KV.trans (KZ.mono (Nat.le_of_eq SV.out.symm)),Nat.le_of_eq SV.out.symm⟩;clear hoz;rw [hwz];clear hwz;refine NoPanic.normal ?_
      go_wp2_with fail
      go_meet
      exact ⟨v.heap.size,y,r,rfl,rfl,Z,HGZ.out,HK4.out.1,HK4.out.2⟩
  · go_simp
    go_simp
    refine hK.out _ _ (HS.out _ KA) (fun _ => ?_);clear hK K;refine wpAnyH_ready (rs:=[6]) (by kernel_rfl) (by simp) ?_;refine (AllReadyH.cons rfl (fun K hK => ?_) AllReadyH.nil);go_simp
    refine (where_any x (HF.out (v.alloc (.cells bnd0 53)) KA).1 (HF.out (v.alloc (.cells bnd0 53)) KA).2.1 (HF.out (v.alloc (.cells bnd0 53)) KA).2.2).mono ?_;rintro e w1 ⟨k,hk,rfl,rfl⟩;have hki:(k:Int)<(R.length:Int):=by omega
    have HK:Hid (k<R.length):=hk;obtain ⟨r0,hr0⟩:∃ r0,R.getD k rf0=r0:=⟨_,rfl⟩;have HR0:Hid (R.getD k rf0=r0):=hr0;clear hr0;go_simp
    refine hK.out _ _ (HS.out _ KA) (fun _ => ?_);clear hK K;refine tk (i:=7) (v:=.pointer (some ⟨g,k*2,none⟩)) ?_;simp only [Act.put,zA,z0Z,z1Z];refine wpAnyH_take (i:=8) (v:=.agg #[.slice r0.la r0.ls.length r0.lc,.slice r0.ea r0.E.length r0.ec]) rfl (by kernel_rfl) (by kernel_rfl) (by kernel_rfl) (fun _ _ _ h=>h) (Or.inl ⟨by rfl,(by intro w hSw;obtain ⟨h1,h2⟩:=hSw.2 k HK.out;rw [HR0.out] at h1 h2;clear hSw;go_simp)⟩) (by assumption) ?_;simp only [Act.put,zA,z0Z,z1Z];refine wpAnyH_ready (rs:=[10]) (by kernel_rfl) (by simp) ?_;refine (AllReadyH.cons rfl (fun K hK => ?_) AllReadyH.nil);go_simp
    refine (find_any (r:=r0) x (by rw [← HR0.out];exact (HF.out (v.alloc (.cells bnd0 53)) KA).2.1.frame HK.out) (HF.out (v.alloc (.cells bnd0 53)) KA).2.2).mono ?_;rintro e w2 ⟨y,r,rfl,hG,kf⟩;have HG:Hid (GoodB f D w2 y):=hG;have s2:=kf.size;have K2:Below v.heap.size v w2:=KA.trans (kf.mono (by have:=KA.size;omega));have K3:Below v.heap.size v (w2.alloc (.cells bnd0 53)):=K2.alloc K2.size _;have K4:Below v.heap.size v (w2.alloc (.cells y.cells 53)):=K2.alloc K2.size _;clear hG;have BA:=(boxA_new v bnd0 53).below kf (by simp);obtain ⟨n0,n1,n2,n3,n4,n5,n6,n7,n8,n9,n10,n11,n12⟩:=cells13 BA;obtain ⟨m0,m1,m2,m3,m4,m5,m6,m7,m8,m9,m10,m11,m12⟩:=frozen13 BA;go_simp
    refine hK.out _ _ (HS.out _ K2) (fun _ => ?_);clear hK K;refine tk (i:=11) (v:=.tuple #[.agg y.cells,.bool r]) ?_;simp only [Act.put,zA,z0Z,z1Z];refine tk (i:=12) (v:=.agg y.cells) ?_;simp only [Act.put,zA,z0Z,z1Z];refine tk (i:=13) (v:=.bool r) ?_;simp only [Act.put,zA,z0Z,z1Z];refine wpAnyH_ready (rs:=[15]) (by kernel_rfl) (by simp) ?_;refine (AllReadyH.cons rfl (fun K hK => ?_) AllReadyH.nil);go_simp
    go_simp
    refine hK.out _ _ (HS.out _ (below13 (R:=v.heap.size) K2 (Nat.le_refl _) (.int .i64 y.k) (.slice y.a1 y.n1 y.y1) (.slice y.a2 y.n2 y.y2) (.string y.s1) (.string y.s2) (.string y.s3) (.string y.s4) (.slice y.b1 y.m1 y.z1) (.slice y.b2 y.m2 y.z2) (.slice y.b3 y.m3 y.z3) (.slice y.b4 y.m4 y.z4) (.bool y.br) (.int .i64 y.ln))) (fun _ => ?_);clear hK K;refine tk (i:=16) (oi:={ dst:=some 7,op:=Op.assign (Operand.tmp 24),type:=4,pos:= "ref.go:98",after:=#[{ on:=13,ground:=Ground.data },{ on:=15,ground:=Ground.chain },{ on:=0,ground:=Ground.phase },{ on:=1,ground:=Ground.phase },{ on:=2,ground:=Ground.phase },{ on:=3,ground:=Ground.phase },{ on:=4,ground:=Ground.phase },{ on:=5,ground:=Ground.phase },{ on:=6,ground:=Ground.phase },{ on:=7,ground:=Ground.phase },{ on:=8,ground:=Ground.phase },{ on:=9,ground:=Ground.phase },{ on:=10,ground:=Ground.phase },{ on:=11,ground:=Ground.phase },{ on:=12,ground:=Ground.phase },{ on:=13,ground:=Ground.phase },{ on:=14,ground:=Ground.phase },{ on:=15,ground:=Ground.phase }],guard:=none }) (v:=.bool r) ?_;simp only [Act.put,zA,z0Z,z1Z];refine wpAnyH_done (by kernel_rfl) ?_ _;obtain ⟨wz,hwz,Z,KZ,hzs⟩:=put13 BA K2 (Nat.le_refl _) (.int .i64 y.k) (.slice y.a1 y.n1 y.y1) (.slice y.a2 y.n2 y.y2) (.string y.s1) (.string y.s2) (.string y.s3) (.string y.s4) (.slice y.b1 y.m1 y.z1) (.slice y.b2 y.m2 y.z2) (.slice y.b3 y.m3 y.z3) (.slice y.b4 y.m4 y.z4) (.bool y.br) (.int .i64 y.ln);have hoz:∀ q,¬ v.heap.size=q→wz.heap[q]? = w2.heap[q]?:=fun q hq=>by rw [← hwz,other13 hq]
    dsimp only [ch13] at hwz;have HGZ:Hid (GoodB f D wz y):=HG.out.imp (fun _ h=>h) (fun q hq=>hoz q (by have:=(HF.out v K0).2.2 q hq;omega));have HK4:Hid (Below v0.heap.size v0 wz∧v0.heap.size≤v.heap.size):=⟨KV.trans (KZ.mono (Nat.le_of_eq SV.out.symm)),Nat.le_of_eq SV.out.symm⟩;clear hoz;rw [hwz];clear hwz;refine NoPanic.normal ?_
    go_wp2_with fail
    go_meet
    exact ⟨v.heap.size,y,r,rfl,rfl,Z,HGZ.out,HK4.out.1,HK4.out.2⟩
 case rest=>
  obtain ⟨kb,y,r,rfl,rfl,BK,hG,kc,hkb⟩:=hcut;obtain ⟨n0,n1,n2,n3,n4,n5,n6,n7,n8,n9,n10,n11,n12⟩:=cells13 BK;have HG:Hid (GoodB f D wc y):=hG;have sc:=kc.size;have s0:=HS0.out;have HDC:Hid (∀ q,D q→q<wc.heap.size):=fun q hq=>by have:=HD.out q hq;omega
  have BRC:=B1.below kc (by omega);have KC:Below w.heap.size w wc:=e1.trans (kc.mono (by omega));clear hG s0
  go_wp2_with fail
  refine (refCopied_good HG.out HDC.out).mono ?_;rintro e w3 ⟨z,rfl,_,k3⟩;have s3:=k3.size;have BR:=BRC.below k3 BRC.lt;have K3:Below w.heap.size w w3:=KC.trans (k3.mono KC.size);obtain ⟨p0,p1,p2,p3,p4,p5,p6,p7,p8,p9,p10,p11,p12⟩:=cells13 BR;obtain ⟨m0,m1,m2,m3,m4,m5,m6,m7,m8,m9,m10,m11,m12⟩:=frozen13 BR;obtain ⟨wz,hwz,Z,KZ,hzs⟩:=put13 BR K3 (Nat.le_refl _) (.int .i64 z.k) (.slice z.a1 z.n1 z.y1) (.slice z.a2 z.n2 z.y2) (.string z.s1) (.string z.s2) (.string z.s3) (.string z.s4) (.slice z.b1 z.m1 z.z1) (.slice z.b2 z.m2 z.z2) (.slice z.b3 z.m3 z.z3) (.slice z.b4 z.m4 z.z4) (.bool z.br) (.int .i64 z.ln);dsimp only [ch13] at hwz;have HKZ:Hid (Below w.heap.size w wz):=KZ;clear KZ K3 KC BRC k3 kc BK n0 n1 n2 n3 n4 n5 n6 n7 n8 n9 n10 n11 n12;go_wp2
  obtain ⟨e0,e1,e2,e3,e4,e5,e6,e7,e8,e9,e10,e11,e12⟩:=cells13 Z;refine bodyPost_ret (v:=.tuple #[.agg z.cells,.bool r]) ?_ rfl ⟨z,r,rfl,HKZ.out⟩;simp [results,Tryz.results104,go_sem,e0,e1,e2,e3,e4,e5,e6,e7,e8,e9,e10,e11,e12]
theorem refClass_any (x:ByteArray) (hB:BoxA w rb 83 #[.slice a R.length c]) (hR:RT f D w (.slice a R.length c) R) (hD:∀ g,D g→g<w.heap.size) :
    Calls Tryz.prog 67 #[.pointer (some ⟨rb,0,none⟩),.string x] w fun e w'=>∃ n:Int,e=.returned (.int .i64 n)∧Below w.heap.size w w':=by
 have HB:Hid (BoxA w rb 83 #[.slice a R.length c]):=hB;have HR:Hid (RT f D w (.slice a R.length c) R):=hR;have HD:Hid (∀ g,D g→g<w.heap.size):=hD;clear hB hR hD;go_enter Tryz.func67,Tryz.ntmps67
 go_wp2_with fail
 refine (refGet_any x HB.out HR.out HD.out).mono ?_;rintro e w1 ⟨y,r,rfl,k1⟩;have HK:Hid (Below w.heap.size w (w1.alloc (.cells y.cells 53))):=k1.alloc k1.size _;have n0:=(boxA_new w1 y.cells 53).cell 0 rfl;go_wp2
 go_ret
 exact ⟨y.k,rfl,HK.out⟩
end
end
section
open Go.RowKit
attribute [local go_sem] Oper.semAt_some
section
variable {f:Nat} {D:Nat→Prop} {w:World} {rb:Nat} {a:Option Addr} {c:Nat} {R:List RF}
theorem refSet_any (x:ByteArray) {y:BV} (hB:BoxA w rb 83 #[.slice a R.length c]) (hR:RT f D w (.slice a R.length c) R) (hD:∀ g,D g→g<w.heap.size∧g≠rb) (hG:GoodB f D w y) :
    Calls Tryz.prog 68 #[.pointer (some ⟨rb,0,none⟩),.string x,.agg y.cells] w (RtAns f D w rb):=by
 have hpos:=hR.pos;have hfew:=hR.few;obtain ⟨g,rfl,hgD,hgl,hcell⟩:=hR.row.ptr hpos;have e1:=below_alloc w (.cells y.cells 53);have B1:=boxA_new w y.cells 53;have HR:Hid (RT f D w (.slice (some ⟨g,0,none⟩) R.length c) R):=hR;have HB:Hid (BoxA w rb 83 #[.slice (some ⟨g,0,none⟩) R.length c]):=hB;have HD:Hid (∀ g,D g→g<w.heap.size∧g≠rb):=hD;have HG:Hid (GoodB f D w y):=hG;have HF:Hid (∀ V,Below w.heap.size w V→BoxA V rb 83 #[.slice (some ⟨g,0,none⟩) R.length c]∧RT f D V (.slice (some ⟨g,0,none⟩) R.length c) R):=fun V hV=>⟨hB.below hV hB.lt,hR.imp (fun _ h=>h) (fun q hq=>hV.block q (hD q hq).1)⟩;have lrb:=hB.lt;clear hR hB hD hG hcell hgD;go_enter Tryz.func68,Tryz.ntmps68
 go_wp2_with fail
 obtain ⟨v,hv⟩:∃ v,w.alloc (.cells y.cells 53)=v:=⟨_,rfl⟩;rw [hv] at e1 B1 ⊢;have sv:w.heap.size<v.heap.size:=B1.lt;clear hv;refine (where_any x (HF.out v e1).1 (HF.out v e1).2 (fun q hq=>by have:=(HD.out q hq).1;omega)).mono ?_;rintro e w1 ⟨k,hk,rfl,rfl⟩;have hki:(k:Int)<(R.length:Int):=by omega
 have HK:Hid (k<R.length):=hk;obtain ⟨r0,hr0⟩:∃ r0,R.getD k rf0=r0:=⟨_,rfl⟩;have HR0:Hid (R.getD k rf0=r0):=hr0;have HFR:Hid (FrOK f D w r0):=by rw [← hr0];exact HR.out.frame hk
 clear hr0;have hE5:=HFR.out.few;have HCF:Hid (∀ V,Below w.heap.size w V→V.cell? ⟨rb,0,none⟩=some (.slice (some ⟨g,0,none⟩) R.length c)∧V.cell? ⟨g,k*2+1,none⟩=some (.slice r0.ea r0.E.length r0.ec)):=fun V hV=>by
  refine ⟨(HF.out V hV).1.cell 0 rfl,?_⟩;obtain ⟨g',e,_,_,hc⟩:=(HF.out V hV).2.row.ptr hpos
  cases e
  rw [hc _ (by omega)];have:=(rfRow_at HK.out).2;rw [HR0.out] at this;exact this
 go_wp2_with fail
 go_loopw [8,9,10] (fun nx fd iv wr=>∃ (i:Nat) (E':List EV) (a8:Option Addr) (c8:Nat) (fb:Bool),nx=.slice a8 i c8∧fd=.bool fb∧iv=.int .i64 i∧i≤r0.E.length∧Hid (E'.length=i)∧Hid (wr.ownsRow v.heap.size 128 14 (.slice a8 i c8) i (evRow E'))∧Hid (∀ p∈E',GoodB f D w p.2)∧Below v.heap.size v wr) (fun nx fd iv _=>r0.E.length - (intOf iv).toNat)
 case atStart=>exact ⟨0,[],none,0,false,rfl,rfl,rfl,Nat.zero_le _,rfl,World.ownsRow_nil _ _ _ _,(fun p hp=>by cases hp),Below.refl _ _⟩
 case round=>
  obtain ⟨i,E',a8,c8,fb,rfl,rfl,rfl,hi,HL,HO,HE,kr⟩:=hrel;have kw:Below w.heap.size w wr:=e1.trans (kr.mono (Nat.le_of_lt sv));have sr:=kr.size;obtain ⟨c0,cF⟩:=HCF.out wr kw;by_cases hlt:i<r0.E.length
  · have i1:(i:Int)<(r0.E.length:Int):=by omega
    obtain ⟨ge,hgp,hgD,hgl2,hcell⟩:=(HFR.out.row.imp (fun _ h=>h) (fun q hq=>kw.block q (HD.out q hq).1)).ptr (by omega);have hat:∀ j,j<14→wr.cell? ⟨ge,i*14+j,none⟩=(EV.cells (r0.E.getD i ev0))[j]?:=fun j hj=>by rw [hcell _ (by omega)];exact evRow_at hlt hj
    obtain ⟨p,hp⟩:∃ p,r0.E.getD i ev0=p:=⟨_,rfl⟩;have HGP:Hid (GoodB f D w p.2):=by rw [← hp];exact HFR.out.good _ (getD_memE hlt)
    rw [hp] at hat;clear hp hcell;rw [hgp] at cF;have q0:wr.cell? ⟨ge,i*14,none⟩=some (.string p.1):=hat 0 (by omega);have q1:wr.cell? ⟨ge,i*14+1,none⟩=some (.int .i64 p.2.k):=hat 1 (by omega);have q2:wr.cell? ⟨ge,i*14+2,none⟩=some (.slice p.2.a1 p.2.n1 p.2.y1):=hat 2 (by omega);have q3:wr.cell? ⟨ge,i*14+3,none⟩=some (.slice p.2.a2 p.2.n2 p.2.y2):=hat 3 (by omega);have q4:wr.cell? ⟨ge,i*14+4,none⟩=some (.string p.2.s1):=hat 4 (by omega);have q5:wr.cell? ⟨ge,i*14+5,none⟩=some (.string p.2.s2):=hat 5 (by omega);have q6:wr.cell? ⟨ge,i*14+6,none⟩=some (.string p.2.s3):=hat 6 (by omega);have q7:wr.cell? ⟨ge,i*14+7,none⟩=some (.string p.2.s4):=hat 7 (by omega);have q8:wr.cell? ⟨ge,i*14+8,none⟩=some (.slice p.2.b1 p.2.m1 p.2.z1):=hat 8 (by omega);have q9:wr.cell? ⟨ge,i*14+9,none⟩=some (.slice p.2.b2 p.2.m2 p.2.z2):=hat 9 (by omega);have q10:wr.cell? ⟨ge,i*14+10,none⟩=some (.slice p.2.b3 p.2.m3 p.2.z3):=hat 10 (by omega);have q11:wr.cell? ⟨ge,i*14+11,none⟩=some (.slice p.2.b4 p.2.m4 p.2.z4):=hat 11 (by omega);have q12:wr.cell? ⟨ge,i*14+12,none⟩=some (.bool p.2.br):=hat 12 (by omega);have q13:wr.cell? ⟨ge,i*14+13,none⟩=some (.int .i64 p.2.ln):=hat 13 (by omega);clear hat;have hst:=same_textR p.1 x;have BY:=B1.below kr sv;obtain ⟨y0,y1,y2,y3,y4,y5,y6,y7,y8,y9,y10,y11,y12⟩:=cells13 BY;have HI:Hid (i+1≤r0.E.length):=by unfold Hid;omega
    by_cases hx:p.1=x
    · rw [decide_eq_true hx] at hst
      clear hx;obtain ⟨Y0,Y1,Y2,Y3,Y4,Y5,Y6,Y7,Y8,Y9,Y10,Y11,Y12⟩:=cells13 (BY.below (below_alloc wr (.cells (EV.cellsA p) 128)) BY.lt);have HOA:Hid (((wr.alloc (.cells (EV.cellsA (p.1,y)) 128)).alloc (.cells (EV.cellsA (p.1,y)) 128)).ownsRow v.heap.size 128 14 (.slice a8 i c8) E'.length (evRow E')):=by unfold Hid;rw [HL.out];exact World.ownsRow.alloc (World.ownsRow.alloc HO.out _) _
      have HBX:Hid (BoxA ((wr.alloc (.cells (EV.cellsA (p.1,y)) 128)).alloc (.cells (EV.cellsA (p.1,y)) 128)) (wr.heap.size+1) 128 (EV.cellsA (p.1,y))):=by have:=boxA_new (wr.alloc (.cells (EV.cellsA (p.1,y)) 128)) (EV.cellsA (p.1,y)) 128;rw [World.size_alloc] at this;exact this
      have KAA:Below v.heap.size v ((wr.alloc (.cells (EV.cellsA (p.1,y)) 128)).alloc (.cells (EV.cellsA (p.1,y)) 128)):=(kr.alloc sr _).alloc (by rw [World.size_alloc];omega) _;have hl9:E'.length≤1000:=by rw [HL.out];omega
      go_wp2_with (at_builtin;refine append_ev (p:=(p.1,y)) rfl _ _ rfl rfl rfl HOA.out HBX.out hl9 KAA.size ?_)
      intro a9 c9 w3 hrow hg3;rw [HL.out] at hrow ⊢;have K3:Below v.heap.size v w3:=KAA.grown hg3 KAA.size (fun k hk=>(row_own HOA.out k hk).1);have HO3:Hid (w3.ownsRow v.heap.size 128 14 (.slice a9 (i+1) c9) (i+1) (evRow (E'++[(p.1,y)]))):=hrow;have HL3:Hid ((E'++[(p.1,y)]).length=i+1):=by unfold Hid;rw [List.length_append,HL.out];rfl
      have HE3:Hid (∀ q∈E'++[(p.1,y)],GoodB f D w q.2):=fun q hq=>by
       rcases List.mem_append.1 hq with h | h
       · exact HE.out q h
       · rw [List.mem_singleton.1 h];exact HG.out
      clear hrow hg3 HOA HBX hl9 KAA;go_wp2
      go_roundw
      case rel=>exact ⟨i+1,E'++[(p.1,y)],a9,c9,true,rfl,rfl,by go_num,HI.out,HL3,HO3,HE3,K3⟩
      case measure=>simp [intOf];omega
    · rw [decide_eq_false hx] at hst
      clear hx;have HOA:Hid (((wr.alloc (.cells (EV.cellsA (p.1,p.2)) 128)).alloc (.cells (EV.cellsA (p.1,p.2)) 128)).ownsRow v.heap.size 128 14 (.slice a8 i c8) E'.length (evRow E')):=by unfold Hid;rw [HL.out];exact World.ownsRow.alloc (World.ownsRow.alloc HO.out _) _
      have HBX:Hid (BoxA ((wr.alloc (.cells (EV.cellsA (p.1,p.2)) 128)).alloc (.cells (EV.cellsA (p.1,p.2)) 128)) (wr.heap.size+1) 128 (EV.cellsA (p.1,p.2))):=by have:=boxA_new (wr.alloc (.cells (EV.cellsA (p.1,p.2)) 128)) (EV.cellsA (p.1,p.2)) 128;rw [World.size_alloc] at this;exact this
      have KAA:Below v.heap.size v ((wr.alloc (.cells (EV.cellsA (p.1,p.2)) 128)).alloc (.cells (EV.cellsA (p.1,p.2)) 128)):=(kr.alloc sr _).alloc (by rw [World.size_alloc];omega) _;have hl9:E'.length≤1000:=by rw [HL.out];omega
      go_wp2_with (at_builtin;refine append_ev (p:=(p.1,p.2)) rfl _ _ rfl rfl rfl HOA.out HBX.out hl9 KAA.size ?_)
      intro a9 c9 w3 hrow hg3;rw [HL.out] at hrow ⊢;have K3:Below v.heap.size v w3:=KAA.grown hg3 KAA.size (fun k hk=>(row_own HOA.out k hk).1);have HO3:Hid (w3.ownsRow v.heap.size 128 14 (.slice a9 (i+1) c9) (i+1) (evRow (E'++[(p.1,p.2)]))):=hrow;have HL3:Hid ((E'++[(p.1,p.2)]).length=i+1):=by unfold Hid;rw [List.length_append,HL.out];rfl
      have HE3:Hid (∀ q∈E'++[(p.1,p.2)],GoodB f D w q.2):=fun q hq=>by
       rcases List.mem_append.1 hq with h | h
       · exact HE.out q h
       · rw [List.mem_singleton.1 h];exact HGP.out
      clear hrow hg3 HOA HBX hl9 KAA;go_wp2
      go_roundw
      case rel=>exact ⟨i+1,E'++[(p.1,p.2)],a9,c9,fb,rfl,rfl,by go_num,HI.out,HL3,HO3,HE3,K3⟩
      case measure=>simp [intOf];omega
  · have i1:¬ (i:Int)<(r0.E.length:Int):=by omega
    have HIE:Hid (i=r0.E.length):=by unfold Hid;omega
    have BY:=B1.below kr sv;obtain ⟨y0,y1,y2,y3,y4,y5,y6,y7,y8,y9,y10,y11,y12⟩:=cells13 BY;have HROW:Hid (wr.ownsRow w.heap.size 128 14 (.slice a8 E'.length c8) E'.length (evRow E')):=by unfold Hid;rw [HL.out];exact rowMonoR HO.out (Nat.le_of_lt sv)
    cases fb with
    | true=>
     have h512:E'.length≤512:=by rw [HL.out];omega
     have TR:=(HF.out wr kw).2.row;have c0:=(HF.out wr kw).1.cell 0 rfl
     go_wp2_with (at_builtin;refine append_nilF rfl _ _ rfl rfl rfl TR hpos (by omega) ?_)
     intro gl cl w2 hgl hfr k2;have s2:=k2.size;have lgl:=(row_own hfr gl rfl).2;have fc:=hfr.cellAt (k*2+1) (by omega);rw [(rfRow_at HK.out).2] at fc;have ff:=hfr.frozenAt (k*2+1);have BT:=(HF.out wr kw).1.below k2 (HF.out wr kw).1.lt;have bc:=BT.cell 0 rfl;have bf:=BT.frozen 0;have HT:=RTab.turned (f:=f) HR.out HB.out HD.out HK.out HE.out h512 kw HROW.out k2 hgl hfr;rw [HL.out] at HT;have HT2:Hid _:=HT;have nrb:¬ gl=rb:=by have:=(HF.out wr kw).1.lt;omega
     have nrb2:¬ rb=gl:=fun e=>nrb e.symm;clear TR c0 hfr HT k2;go_wp2
     go_ret
     exact ⟨0,rfl,HT2.out.1,HT2.out.2⟩
    | false=>
     go_wp2_with fail
     refine (refCount11_any (HF.out wr kw).1 (HF.out wr kw).2).mono ?_;rintro e w1 ⟨n,hn1,hn2,rfl,rfl⟩;have hnE:=hn1 k HK.out;rw [HR0.out] at hnE;clear hn1;by_cases h5:512≤n
     · have j5:¬ (n:Int)<512:=by omega
       have j6:(512:Int)≤(n:Int):=by omega
       have HF24:Hid (RtAns f D w rb (.returned (.int .i64 24)) wr):=RtAns.no 24 ⟨_,_,_,HB.out,HR.out⟩ (fun q hq=>(HD.out q hq).1) kw;go_wp2
       go_ret
       exact HF24.out
     · have j5:(n:Int)<512:=by omega
       have j6:¬ (512:Int)≤(n:Int):=by omega
       have HOA:Hid ((wr.alloc (.cells (EV.cellsA (x,y)) 128)).ownsRow v.heap.size 128 14 (.slice a8 i c8) E'.length (evRow E')):=by unfold Hid;rw [HL.out];exact World.ownsRow.alloc HO.out _
       have HBX:Hid (BoxA (wr.alloc (.cells (EV.cellsA (x,y)) 128)) wr.heap.size 128 (EV.cellsA (x,y))):=boxA_new _ _ _;have KAA:Below v.heap.size v (wr.alloc (.cells (EV.cellsA (x,y)) 128)):=kr.alloc sr _;have hl9:E'.length≤1000:=by rw [HL.out];omega
       have h512:(E'++[(x,y)]).length≤512:=by rw [List.length_append,HL.out,HIE.out];simp;omega
       go_wp2_with (at_builtin;refine append_ev (p:=(x,y)) rfl _ _ rfl rfl rfl HOA.out HBX.out hl9 KAA.size ?_)
       intro a9 c9 w3 hrow hg3;rw [HL.out] at hrow ⊢;have K3:Below v.heap.size v w3:=KAA.grown hg3 KAA.size (fun k hk=>(row_own HOA.out k hk).1);have KW3:Below w.heap.size w w3:=e1.trans (K3.mono (Nat.le_of_lt sv));have HL3:Hid ((E'++[(x,y)]).length=i+1):=by unfold Hid;rw [List.length_append,HL.out];rfl
       have HROW3:Hid (w3.ownsRow w.heap.size 128 14 (.slice a9 (E'++[(x,y)]).length c9) (E'++[(x,y)]).length (evRow (E'++[(x,y)]))):=by unfold Hid;rw [HL3.out];exact rowMonoR hrow (Nat.le_of_lt sv)
       have HE3:Hid (∀ q∈E'++[(x,y)],GoodB f D w q.2):=fun q hq=>by
        rcases List.mem_append.1 hq with h | h
        · exact HE.out q h
        · rw [List.mem_singleton.1 h];exact HG.out
       clear hrow hg3 HOA HBX hl9 KAA y0 y1 y2 y3 y4 y5 y6 y7 y8 y9 y10 y11 y12 c0 cF;have TR:=(HF.out w3 KW3).2.row;have c0:=(HF.out w3 KW3).1.cell 0 rfl
       go_wp2_with (at_builtin;refine append_nilF rfl _ _ rfl rfl rfl TR hpos (by omega) ?_)
       intro gl cl w2 hgl hfr k2;have s2:=k2.size;have lgl:=(row_own hfr gl rfl).2;have fc:=hfr.cellAt (k*2+1) (by omega);rw [(rfRow_at HK.out).2] at fc;have ff:=hfr.frozenAt (k*2+1);have BT:=(HF.out w3 KW3).1.below k2 (HF.out w3 KW3).1.lt;have bc:=BT.cell 0 rfl;have bf:=BT.frozen 0;have HT:=RTab.turned (f:=f) HR.out HB.out HD.out HK.out HE3.out h512 KW3 HROW3.out k2 hgl hfr;rw [HL3.out] at HT;have HT2:Hid _:=HT;have nrb:¬ gl=rb:=by have:=(HF.out w3 KW3).1.lt;omega
       have nrb2:¬ rb=gl:=fun e=>nrb e.symm;clear TR c0 hfr HT k2;go_wp2
       go_ret
       exact ⟨0,rfl,HT2.out.1,HT2.out.2⟩
end
end
end Go.Proofs.YtimfnalpmmkndaaGreatDoor
