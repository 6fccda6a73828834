/- shape.selected: the items to which steps lead. -/
import Derived.Test.YtheaeggecpfcbaaGreatH3
import Derived.Test.YtheaeggecpfcbaaGreatH4
import Derived.Test.YtheaeggecpfcbaaGreatH5
import Derived.Test.YtheaeggecpfcbaaGreatH6
set_option maxRecDepth 100000
set_option maxHeartbeats 6400000
set_option linter.unusedVariables false
set_option linter.unusedSimpArgs false
namespace Go.Proofs.YtheaeggecpfcbaaGreat
open Go.RowKit Go.Shelf
attribute [local go_sem] Oper.semAt_some
theorem lt_of_block' {W:World} {g:Nat} {o:Obj} (h:W.heap[g]? = some o):g<W.heap.size:=(Array.getElem?_eq_some_iff.1 h).1
theorem selected_ok {f N:Nat} {D:Nat→Prop} {w:World} {x1 x2 b:Option Addr} {y1 y2 c:Nat} {t:Tr} {ss:List (List Int)} (hD:∀ g,D g→g<w.heap.size) (hA:ArV (f+1) D w (.slice x1 t.ns.length y1) (.slice x2 t.kids.length y2) t) (hm:(measF 16 t).isSome=true)
    (hR:Rows2 D w b c ss) (hS:SmallS ss) (hl:∀ l∈ss,l.length≤1000000) (hE:(sizeF (lenF ss)).2=0) (hN:(sizeF (lenF ss)).1=(N:Int)) (hN1:1≤N) (hW:(walkF ss).length=N) (hin:∀ p∈walkF ss,p<(t.kids.length:Int))
    (hall:∀ s∈selP t (walkF ss),(measI (measF 16) s).isSome=true) (hdp:(togF (msOf (selP t (walkF ss)))).1≤16) (hcl:(togF (msOf (selP t (walkF ss)))).2≤16384) :
    Calls Tryz.prog 100 #[.agg #[.slice x1 t.ns.length y1,.slice x2 t.kids.length y2],.slice b ss.length c] w fun e w'=>∃ z1 u1 z2 u2,e=.returned (.tuple #[.agg #[.slice z1 ss.length u1,.slice z2 N u2],.int .i64 0])∧ArV (f+1) (Fr w.heap.size w'.heap.size) w' (.slice z1 ss.length u1) (.slice z2 N u2) (arrT (lenF ss) (selP t (walkF ss)))∧Below w.heap.size w w':=by
 obtain ⟨L',hL',_,_,hk,hk4,hallk⟩:=measF_some hm;have hpos:0<t.kids.length:=by omega
 obtain ⟨L,hLl,hRL,hIL⟩:=row_iv hA.2;rw [← hLl] at hRL;obtain ⟨g,o,rfl,hg,hcs⟩:=RowB.ptr hRL (by omega);have HD:Hid (∀ g,D g→g<w.heap.size):=hD;have HA:Hid (ArV (f+1) D w (.slice x1 t.ns.length y1) (.slice (some ⟨g,o,none⟩) t.kids.length y2) t):=hA;have HM:Hid ((measF 16 t).isSome=true):=hm;have HR:Hid (Rows2 D w b c ss):=hR;have HS:Hid (SmallS ss):=hS;have HLL:Hid (∀ l∈ss,l.length≤1000000):=hl;have HNE:Hid (sizeF (lenF ss)=((N:Int),0)):=Prod.ext hN hE;have HWL:Hid ((walkF ss).length=N):=hW;have HIN:Hid (∀ p∈walkF ss,p<(t.kids.length:Int)):=hin;have HALL:Hid (∀ s∈selP t (walkF ss),(measI (measF 16) s).isSome=true):=hall;have HDP:Hid ((togF (msOf (selP t (walkF ss)))).1≤16):=hdp;have HCL:Hid ((togF (msOf (selP t (walkF ss)))).2≤16384):=hcl;have HLN:Hid (L.length=t.kids.length):=hLl;have HCS:Hid (∀ j,j<L.length→CellsAt w g (o+j*6) (L.getD j iv0)):=hcs;have HIL:Hid (∀ j,j<t.kids.length→IsIt f D w (L.getD j iv0) (t.kids.getD j tr0)):=hIL;have hr100:ss.length≤100:=hS.1;have hrc:=hR.1;have hN4:N≤4096:=by have:=(sizeF_in (lenF ss)).2;omega
 have hbo:y2≤9223372036854775807∧t.kids.length≤y2:=⟨hA.2.bounds.2,hA.2.bounds.1⟩;have hgl:=hD g hg;have k0:=below_alloc w (.cells #[.slice x1 t.ns.length y1,.slice (some ⟨g,o,none⟩) t.kids.length y2] 25);have X0:=boxA_new w #[.slice x1 t.ns.length y1,.slice (some ⟨g,o,none⟩) t.kids.length y2] 25;have k1:=below_alloc (w.alloc (.cells #[.slice x1 t.ns.length y1,.slice (some ⟨g,o,none⟩) t.kids.length y2] 25)) (.cells #[.slice none 0 0,.slice none 0 0] 25);have R0:=boxA_new (w.alloc (.cells #[.slice x1 t.ns.length y1,.slice (some ⟨g,o,none⟩) t.kids.length y2] 25)) #[.slice none 0 0,.slice none 0 0] 25;have X:=X0.below k1 (by simp);have kv:Below w.heap.size w _:=k0.trans (k1.mono (by simp));have sv:((w.alloc (.cells #[.slice x1 t.ns.length y1,.slice (some ⟨g,o,none⟩) t.kids.length y2] 25)).alloc (.cells #[.slice none 0 0,.slice none 0 0] 25)).heap.size=w.heap.size+1+1:=by simp
 rw [World.size_alloc] at R0;clear hD hA hm hR hS hl hE hN hW hin hall hdp hcl hL' hk hallk hRL hIL hcs hLl k0 k1 X0;obtain ⟨n,hn⟩:∃ n,n=4*ss.length+10:=⟨_,rfl⟩;refine (callsIn_wide (n:=n)).1 ?_;refine callsIn_of_wp_marks Tryz.func100 rfl trivial ?_ rfl;simp only [Tryz.ntmps100,List.size_toArray,List.length_cons,List.length_nil,Nat.reduceAdd,Nat.reduceSub,Array.replicate_succ,Array.replicate_zero,List.push_toArray,List.append_toArray,List.nil_append,List.cons_append]
 gi_wp2_with fail
 generalize hAA:(w.alloc (.cells #[.slice x1 t.ns.length y1,.slice (some ⟨g,o,none⟩) t.kids.length y2] 25)).alloc (.cells #[.slice none 0 0,.slice none 0 0] 25)=v at *;clear hAA;refine ⟨trivial,?_⟩;refine (callsIn_wide.2 (lengths6_any (HR.out.imp (fun _ h=>h) (Agree.of kv HD.out)) (fun g hg=>by have:=HD.out g hg;omega) hr100 HLL.out)).mono ?_;rintro e w1 ⟨z,u,rfl,hln,q1⟩;have HLN1:Hid (RdN (Fr v.heap.size w1.heap.size) w1 (.slice z ss.length u) (lenF ss)):=hln;have s1:=q1.size;have kw1:=kv.trans (q1.mono (by omega));have X1:=X.below q1 (by omega);have R1:=R0.below q1 (by omega);clear hln
 gi_wp2_with fail
 refine ⟨trivial,?_⟩;have CS:=arrSize_any (w:=w1) (D:=Fr v.heap.size w1.heap.size) (sh:=lenF ss) (a:=z) (c:=u) (by rw [lenF_len];exact HLN1.out) (fun g hg=>hg.2);rw [lenF_len,HNE.out] at CS;refine (callsIn_wide.2 CS).mono ?_;rintro e w1' ⟨rfl,hw⟩;obtain rfl:=hw.symm;clear CS;have z0:=X1.cell 0 rfl;have z1:=X1.cell 1 rfl
 gi_wp2_with fail
 refine ⟨trivial,?_⟩;refine (callsIn_wide.2 (proto6_any (fun g hg=>by have:=HD.out g hg;omega) (HA.out.agree (Agree.of kw1 HD.out)) HM.out)).mono ?_;rintro e w2 ⟨y,rfl,hy,q2⟩;have HY:Hid (IsIt f (Fr w1.heap.size w2.heap.size) w2 y (tyI (t.kids.getD 0 tr0))):=hy;have s2:=q2.size;have X2:=X1.below q2 (by omega);have R2:=R1.below q2 (by omega);have kw2:=kw1.trans (q2.mono (by omega));clear hy z0 z1
 gi_wp2_with fail
 refine ⟨trivial,?_⟩;refine (callsIn_wide.2 (walk_any _ _ _ _)).mono ?_;rintro e w3 ⟨rfl,rfl⟩
 gi_wp2_with fail
 have kp:=below_alloc w2 (.cells #[.int .u8 y.k,.bool y.b,.slice y.a1 y.n1 y.c1,.slice y.a2 y.n2 y.c2,.int .i32 y.c,.slice y.a3 y.n3 y.c3] 68);have BP:=boxA_new w2 #[.int .u8 y.k,.bool y.b,.slice y.a1 y.n1 y.c1,.slice y.a2 y.n2 y.c2,.int .i32 y.c,.slice y.a3 y.n3 y.c3] 68;obtain ⟨va,hva⟩:∃ va,w2.alloc (.cells #[.int .u8 y.k,.bool y.b,.slice y.a1 y.n1 y.c1,.slice y.a2 y.n2 y.c2,.int .i32 y.c,.slice y.a3 y.n3 y.c3] 68)=va:=⟨_,rfl⟩;have sa:va.heap.size=w2.heap.size+1:=by rw [← hva,World.size_alloc]
 rw [hva] at kp BP ⊢;have kt:=below_alloc va (.cells #[.slice none 0 0] 22);have BT:=boxA_new va #[.slice none 0 0] 22;obtain ⟨vb,hvb⟩:∃ vb,va.alloc (.cells #[.slice none 0 0] 22)=vb:=⟨_,rfl⟩;have sb:vb.heap.size=w2.heap.size+1+1:=by rw [← hvb,World.size_alloc,sa]
 rw [hvb] at kt BT ⊢;have kq:=below_alloc vb (.cells #[.slice b ss.length c] 120);have BQ:=boxA_new vb #[.slice b ss.length c] 120;obtain ⟨W0,hW0⟩:∃ W0,vb.alloc (.cells #[.slice b ss.length c] 120)=W0:=⟨_,rfl⟩;have sW:W0.heap.size=w2.heap.size+1+1+1:=by rw [← hW0,World.size_alloc,sb]
 rw [hW0] at kq BQ ⊢;clear hva hvb hW0;rw [sa] at BT;rw [sb] at BQ;have BP0:=(BP.below kt (by omega)).below kq (by omega);have BT0:=BT.below kq (by omega);have k20:Below w2.heap.size w2 W0:=(kp.trans (kt.mono (by omega))).trans (kq.mono (by omega));have X3:=X2.below k20 (by omega);have R3:=R2.below k20 (by omega);have kw0:=kw2.trans (k20.mono (by omega));have hsz:=kw2.size;have HLN0:Hid (RdN (Fr v.heap.size w1.heap.size) W0 (.slice z ss.length u) (lenF ss)):=HLN1.out.imp (fun _ h=>h) (Agree.of (q2.trans (k20.mono (by omega))) (fun g hg=>hg.2));have HY0:Hid (IsIt f (Fr w1.heap.size w2.heap.size) W0 y (tyI (t.kids.getD 0 tr0))):=HY.out.agree (Agree.of k20 (fun g hg=>hg.2));clear BP BT kp kt kq HY HLN1 X X1 X2 R0 R1 R2;have HSEQ:Hid _:=walk_pays ss.length ss rfl HS.out (w:=W0) (a:=b) (c:=c) (Tn:=w2.heap.size+1+1) (n₀:=w.heap.size) (hi:=W0.heap.size+2) (Ex:=fun g=>g=w2.heap.size+1) (Ty:=fun ty=>ty=68) (n - 1) ⟨by decide,by decide,by decide⟩ (by omega) BQ ((HR.out.imp (fun g hg=>HD.out g hg) (Agree.of kw0 HD.out))) (by omega) (by intro g hg;omega) (by omega);obtain ⟨mk,hmk⟩:∃ mk:Int→Act,∀ x,mk x={ tmps:=#[.agg #[.slice x1 t.ns.length y1,.slice (some ⟨g,o,none⟩) t.kids.length y2],.slice b ss.length c,.pointer (some ⟨w.heap.size,0,none⟩),undef,.pointer (some ⟨w.heap.size+1,0,none⟩),.int .i64 0,.slice z ss.length u,.int .i64 (N:Int),.int .i64 0,.pointer (some ⟨w2.heap.size,0,none⟩),.pointer (some ⟨w2.heap.size+1,0,none⟩),.int .i64 x,.slice b ss.length c,.slice z ss.length u,.tuple #[.int .i64 (N:Int),.int .i64 0],.slice z ss.length u,.tuple #[.int .i64 (N:Int),.int .i64 0],.int .i64 (N:Int),.int .i64 0,.int .i64 0,.bool false,undef,undef,.agg #[.slice x1 t.ns.length y1,.slice (some ⟨g,o,none⟩) t.kids.length y2],.agg #[.int .u8 y.k,.bool y.b,.slice y.a1 y.n1 y.c1,.slice y.a2 y.n2 y.c2,.int .i32 y.c,.slice y.a3 y.n3 y.c3],.int .i64 (N:Int),.bool false,undef,undef,undef,undef,undef,undef,.slice b ss.length c,.func (.func 159) #[] #[.pointer (some ⟨w2.heap.size+1+1,0,none⟩)],.int .i64 x,undef,undef,undef,undef,undef,undef,undef,undef,undef,undef,undef,undef,undef,undef,undef,undef,undef,undef,undef],defers:=[] }:=⟨_,fun _=>rfl⟩;refine wpIn_range_paysY rfl (by omega) (gf:=159) (lb:=#[.pointer (some ⟨w2.heap.size+1+1,0,none⟩)]) rfl trivial (enters_of Tryz.func159 (by kernel_rfl) rfl)
  HSEQ.out (fun h h'=>h.trans h') (fun W l o o' hl ho hc _=>KeepV.put W l o o' (by omega) ho hc) (Below.refl _ _) (fun _=>rfl)
  (fun pre W=>∃ a cc,SelI (ivX L y) w W0 (w2.heap.size+1) pre W a cc) ?hI ⟨none,0,BT0,World.ownsRow_nil _ _ _ _,kw0,fun _ _ _=>rfl,Nat.le_refl _⟩ ?hS
  (fun _ _ _=>False) ?hIx
  (fun pre x a' W=>(∃ r,pre++x :: r=walkF ss)∧a'=mk x) ?hAx ?assign ?body ?done ?stop
 case hI=>
  rintro s A B row ⟨a,cc,h⟩ hg hrow;exact ⟨a,cc,h.grown (by omega) hg hrow⟩
 case hS=>
  rintro s A B row h hg hrow;exact h
 case hIx=>
  rintro c' s A B row h;exact h.elim
 case hAx=>
  rintro pre x a' _ A B row h hg hrow;exact h
 case assign=>
  rintro l' pre x V K hi hG hK;dsimp only [encI]
  gi_wp2
  exact hK _ _ (KeepsOthers.refl _ |>.from _) (KeepV.refl _ _ _ _) hi ⟨hG,(hmk x).symm⟩
 case body=>
  rintro l' pre x a' V ⟨a,cc,hI⟩ ⟨⟨rr,hG⟩,rfl⟩;rw [hmk];have hxm:x∈walkF ss:=by rw [← hG];simp
  have hx1:=(HS.out.place hxm).1;have hx2:=HIN.out x hxm;have hpl:pre.length<N:=by
   have:=congrArg List.length hG;rw [List.length_append,List.length_cons,HWL.out] at this;omega
  have s3:=hI.size;have hT:w2.heap.size+1<W0.heap.size:=by omega
  have hwT:w.heap.size≤w2.heap.size+1:=by omega
  have cT:=hI.box.cell 0 rfl;have fT:=hI.box.frozen 0;have HI:Hid (SelI (ivX L y) w W0 (w2.heap.size+1) pre V a cc):=hI;obtain ⟨i0,hi,hz0,hz1,hz2⟩:=info_parts info_item3;clear hxm hG;by_cases hx:x = -1
  · subst hx
    have BPV:BoxA V w2.heap.size 68 #[.int .u8 y.k,.bool y.b,.slice y.a1 y.n1 y.c1,.slice y.a2 y.n2 y.c2,.int .i32 y.c,.slice y.a3 y.n3 y.c3]:=by unfold BoxA;rw [hI.old w2.heap.size (by omega) (by omega)];exact BP0
    have m0:=BPV.cell 0 rfl;have m1:=BPV.cell 1 rfl;have m2:=BPV.cell 2 rfl;have m3:=BPV.cell 3 rfl;have m4:=BPV.cell 4 rfl;have m5:=BPV.cell 5 rfl;have ho:=hI.own;have HX:Hid ((ivX L y (-1)).arr.toList=[.int .u8 y.k,.bool y.b,.slice y.a1 y.n1 y.c1,.slice y.a2 y.n2 y.c2,.int .i32 y.c,.slice y.a3 y.n3 y.c3]):=rfl;clear hI BPV
    gi_wp2_with (gi_at_builtin;refine wpListIn_append_at _ rfl _ _ 22 rfl W0.heap.size 68 i0 (.agg #[.int .u8 0,.bool false,.slice none 0 0,.slice none 0 0,.int .i32 0,.slice none 0 0]) 6 96 Tryz.underlying22 hi hz0 hz1 hz2 rfl (by decide) _ _ _ rfl (ho.alloc _) ⟨V.heap.size,0,none⟩ 1 1 [.int .u8 y.k,.bool y.b,.slice y.a1 y.n1 y.c1,.slice y.a2 y.n2 y.c2,.int .i32 y.c,.slice y.a3 y.n3 y.c3] rfl rfl (cells_new V #[.int .u8 y.k,.bool y.b,.slice y.a1 y.n1 y.c1,.slice y.a2 y.n2 y.c2,.int .i32 y.c,.slice y.a3 y.n3 y.c3] _) (by intro u hu;simp at hu;rcases hu with rfl | rfl | rfl | rfl | rfl | rfl <;> rfl) ?c3 ?c4 ?c5 ?_)
    case c3=>unfold maxLen;omega
    case c4=>omega
    case c5=>have:=(below_alloc V (.cells #[.int .u8 y.k,.bool y.b,.slice y.a1 y.n1 y.c1,.slice y.a2 y.n2 y.c2,.int .i32 y.c,.slice y.a3 y.n3 y.c3] 68)).size;omega
    intro v' wa hown hgr hvo;rw [← sW] at hown;obtain ⟨a',c',rfl,hS',hKF,hKV⟩:=HI.out.next (x:=-1) hT hwT (below_alloc V _) (KeepsOthers.alloc V _) hgr (by rw [HX.out];exact hown);have F2:=hS';have BX:=boxA_grown (HI.out.box.below (below_alloc V (.cells #[.int .u8 y.k,.bool y.b,.slice y.a1 y.n1 y.c1,.slice y.a2 y.n2 y.c2,.int .i32 y.c,.slice y.a3 y.n3 y.c3] 68)) HI.out.box.lt) hgr (fun e=>by have h1:W0.heap.size≤w2.heap.size+1:=(row_own ho _ e).1;omega);have cT2:=BX.cell 0 rfl;have fT2:=BX.frozen 0;have HF:Hid _:=hS';clear hS' F2 BX hown hgr hvo
    gi_wp2
    exact ⟨hKF,hKV,a',c',HF.out⟩
  · obtain ⟨q,rfl⟩:=Int.eq_ofNat_of_zero_le (show 0≤x by omega)
    have hq:q<t.kids.length:=by omega
    have hd:decide ((q:Int) = -1)=false:=decide_eq_false (by omega);have hd2:((q:Int) == -1)=false:=by rw [beq_eq_false_iff_ne];omega
    have XV:BoxA V w.heap.size 25 #[.slice x1 t.ns.length y1,.slice (some ⟨g,o,none⟩) t.kids.length y2]:=by unfold BoxA;rw [hI.old w.heap.size (by omega) (by omega)];exact X3
    have HcA:Hid (V.cell? ⟨w.heap.size,1,none⟩=some (.slice (some ⟨g,o,none⟩) t.kids.length y2)):=XV.cell 1 rfl;have HC:Hid (CellsAt V g (o+q*6) (L.getD q iv0)):=(HCS.out q (by have:=HLN.out;omega)).agree (D:=D) (Agree.of hI.bel HD.out) hg;have HX:Hid ((ivX L y (q:Int)).arr.toList=(L.getD q iv0).arr.toList):=by
     unfold Hid ivX;rw [if_neg (by omega),Int.toNat_natCast]
    clear hI XV hx
    gi_wp2_with fail
    refine wpIn_noPanic ?_;refine wpIn_region_any (by kernel_rfl) ?_;refine se13_000000000 (W:=V.drew) (T:=w2.heap.size+1) (A:=w.heap.size) (g:=g) (o:=o) (q:=q) (n:=t.kids.length) (y:=y2) (x:=L.getD q iv0) (Z:=W0.heap.size) (xs:=cellsX (ivX L y) pre) (rl:=pre.length) HI.out.box HcA.out HC.out hq HI.out.own hT s3 (by omega) ?_;intro a4 c4 wz hr hgr;obtain ⟨a',c',e,hS',hKF,hKV⟩:=HI.out.next (x:=(q:Int)) (Va:=V.drew.alloc (.cells #[.int .u8 (L.getD q iv0).k,.bool (L.getD q iv0).b,.slice (L.getD q iv0).a1 (L.getD q iv0).n1 (L.getD q iv0).c1,.slice (L.getD q iv0).a2 (L.getD q iv0).n2 (L.getD q iv0).c2,.int .i32 (L.getD q iv0).c,.slice (L.getD q iv0).a3 (L.getD q iv0).n3 (L.getD q iv0).c3] 68)) hT hwT (by
     have k:=below_alloc V.drew (.cells #[.int .u8 (L.getD q iv0).k,.bool (L.getD q iv0).b,.slice (L.getD q iv0).a1 (L.getD q iv0).n1 (L.getD q iv0).c1,.slice (L.getD q iv0).a2 (L.getD q iv0).n2 (L.getD q iv0).c2,.int .i32 (L.getD q iv0).c,.slice (L.getD q iv0).a3 (L.getD q iv0).n3 (L.getD q iv0).c3] 68);exact ⟨k.os,k.tape,k.output,k.size,k.block⟩) (by
     have k:=KeepsOthers.alloc V.drew (.cells #[.int .u8 (L.getD q iv0).k,.bool (L.getD q iv0).b,.slice (L.getD q iv0).a1 (L.getD q iv0).n1 (L.getD q iv0).c1,.slice (L.getD q iv0).a2 (L.getD q iv0).n2 (L.getD q iv0).c2,.int .i32 (L.getD q iv0).c,.slice (L.getD q iv0).a3 (L.getD q iv0).n3 (L.getD q iv0).c3] 68);exact ⟨k.size,k.same⟩) hgr (by rw [HX.out];exact hr)
    have HF:Hid (∃ a cc,SelI (ivX L y) w W0 (w2.heap.size+1) (pre++[(q:Int)]) _ a cc):=⟨a',c',hS'⟩;clear hS' e hr hgr;refine noPanic_normal ?_
    gi_wp2_with fail
    exact ⟨hKF,hKV,HF.out⟩
 case done=>
  rintro Dn xs V hDn hS ⟨a,cc,hI⟩ hdef;obtain rfl:xs=walkF ss:=hS;have s3:=hI.size;have hww:=hI.bel;obtain ⟨ps,hps⟩:∃ ps,walkF ss=ps:=⟨_,rfl⟩;have HPS:Hid (walkF ss=ps):=hps;rw [hps] at hI;have HWL2:Hid (ps.length=N):=by unfold Hid;rw [← hps];exact HWL.out
  have HIN2:Hid (∀ p∈ps,-1≤p∧p<(t.kids.length:Int)):=fun p hp=>by rw [← hps] at hp;exact ⟨(HS.out.place hp).1,HIN.out p hp⟩
  have D1:∀ g,w.heap.size≤g→g<w2.heap.size→V.heap[g]? = W0.heap[g]?:=fun g _ h2=>hI.old g (by omega) (by omega);have hsh:RdN (fun g=>D g∨(v.heap.size≤g∧g<V.heap.size)) V (.slice z (lenF ss).length u) (lenF ss):=by
   rw [lenF_len];exact HLN0.out.imp (fun g hg=>Or.inr ⟨hg.1,by have:=hg.2;omega⟩) (fun g hg=>D1 g (by have:=hg.1;omega) (by have:=hg.2;omega))
  have hX:∀ j,j<ps.length→IsIt f (fun g=>D g∨(v.heap.size≤g∧g<V.heap.size)) V (ivX L y (ps.getD j 0)) ((selP t ps).getD j tr0):=fun j hj=>by
   have hm:ps.getD j 0∈ps:=by rw [List.getD_eq_getElem?_getD,List.getElem?_eq_getElem hj];exact List.getElem_mem hj
   have e:(selP t ps).getD j tr0=trX t (ps.getD j 0):=by
    unfold selP;rw [List.getD_eq_getElem?_getD,List.getElem?_map,List.getElem?_eq_getElem hj,List.getD_eq_getElem?_getD,List.getElem?_eq_getElem hj];rfl
   rw [e];obtain ⟨h1,h2⟩:=HIN2.out _ hm;generalize ps.getD j 0=p at *;unfold ivX trX;by_cases hp:p<0
   · rw [if_pos hp,if_pos hp]
     exact HY0.out.imp (fun g hg=>Or.inr ⟨by have:=hg.1;omega,by have:=hg.2;omega⟩) (fun g hg=>D1 g (by have:=hg.1;omega) hg.2)
   · rw [if_neg hp,if_neg hp]
     exact (HIL.out p.toNat (by omega)).imp (fun g hg=>Or.inl hg) (Agree.of hww HD.out)
  have hRow:=row_trees (row_X hI.own) (selP_len t ps) (D':=fun g=>D g∨(v.heap.size≤g∧g<V.heap.size)) (fun g hg=>Or.inr ⟨by have:=hg.1;omega,hg.2⟩) hX;rw [show ps.length=(selP t ps).length from (selP_len t ps).symm] at hRow;have hlN:(selP t ps).length=N:=by rw [selP_len];exact HWL2.out
  have hml:(msOf (selP t ps)).length=N:=by rw [msOf_len,hlN]
  have ec:cyc ((0:Int),(0:Int)) (msOf (selP t ps)) N=msOf (selP t ps):=by rw [← hml];exact cyc_all _
  have ek:cyc tr0 (selP t ps) N=selP t ps:=by rw [← hlN];exact cyc_all _
  have hall':=HALL.out;have hdp':=HDP.out;have hcl':=HCL.out;rw [hps] at hall' hdp' hcl';have CM:=make_ok (w:=V) (f:=f) (D:=fun g=>D g∨(v.heap.size≤g∧g<V.heap.size)) (sh:=lenF ss) (l:=selP t ps) (N:=N) (x1:=z) (y1:=u) (a2:=a) (c2:=cc) hsh hRow (fun g hg=>by
   rcases hg with hg | hg
   · have:=HD.out g hg
     have:=hww.size;omega
   · exact hg.2) (by omega) (by omega) (by rw [HNE.out]) (by rw [HNE.out]) hN1 hall' (by rw [ec];exact hdp') (by rw [ec];exact hcl')
  rw [lenF_len,hlN,ek] at CM;have cT:=hI.box.cell 0 rfl;have hpl:=HWL2.out;rw [hpl] at cT;have cT:V.cell? ⟨w2.heap.size+1,0,none⟩=some (.slice a N cc):=cT;have R4:BoxA V (w.heap.size+1) 25 #[.slice none 0 0,.slice none 0 0]:=by unfold BoxA;rw [hI.old (w.heap.size+1) (by omega) (by omega)];exact R3
  have HK:Hid (selP t ps=selP t ps):=rfl;have lDn:=lt_of_block' hdef;clear hI D1 hsh hX hRow hall' hdp' hcl' ec ek hml hlN hps hpl
  gi_wp2_with fail
  refine ⟨trivial,?_⟩;refine (callsIn_wide.2 CM).mono ?_;rintro e w5 ⟨p1,u1,p2,u2,rfl,hv,k5⟩;have HV:Hid (ArV (f+1) (Fr V.heap.size w5.heap.size) w5 (.slice p1 ss.length u1) (.slice p2 N u2) (arrT (lenF ss) (selP t ps))):=hv;have s5:=k5.size;have R5:=R4.below k5 (by omega);have hd5:w5.heap[Dn]? = some (.deferred (some [])):=by rw [k5.block Dn lDn];exact hdef
  have kz:=hww.trans (k5.mono hww.size);have hvs:=hww.size;clear CM hv;have r0:=R5.cell 0 rfl;have r1:=R5.cell 1 rfl;have f0:=R5.frozen 0;have f1:=R5.frozen 1;have Rd:=R5.set2 (.slice p1 ss.length u1) (.slice p2 N u2)
  gi_wp2
  have hK2:=((KeepsOthers.setCell w5 ⟨w.heap.size+1,0,none⟩ (.slice p1 ss.length u1)).trans (KeepsOthers.setCell _ ⟨w.heap.size+1,1,none⟩ (.slice p2 N u2))).same Dn _ hd5 rfl;refine ⟨by simp,.inl ⟨_,_,rfl,run_takeDeferred hK2,?_⟩⟩;have hgp:=grownBy_putObj' ((w5.setCell ⟨w.heap.size+1,0,none⟩ (.slice p1 ss.length u1)).setCell ⟨w.heap.size+1,1,none⟩ (.slice p2 N u2)) Dn (.deferred none);have hX:=boxA_grown Rd hgp (fun e=>by cases e;omega);have y0:=hX.cell 0 rfl;have y1':=hX.cell 1 rfl;have kF:=((kz.setCell (p:=⟨w.heap.size+1,0,none⟩) (show w.heap.size≤w.heap.size+1 by omega) (.slice p1 ss.length u1)).setCell (p:=⟨w.heap.size+1,1,none⟩) (show w.heap.size≤w.heap.size+1 by omega) (.slice p2 N u2)).grown hgp (by simp [World.setCell];omega) (fun k e=>by cases e;omega);refine ⟨.tuple #[.agg #[.slice p1 ss.length u1,.slice p2 N u2],.int .i64 0],by simp [results,Tryz.results100,go_sem,y0,y1'],p1,u1,p2,u2,rfl,?_,kF⟩;rw [HPS.out];refine ArV.imp ?_ ?_ (f+1) (f+1) _ _ _ (Nat.le_refl _) HV.out
  · rintro g' ⟨h1,h2⟩
    exact ⟨by omega,by simp [World.setCell,World.putObj];exact h2⟩
  · rintro g' ⟨h1,h2⟩
    have hne:¬ w.heap.size+1=g':=by omega
    rw [hgp.block g' (by simp [World.setCell];exact h2) (fun e=>by cases e;omega)];simp [World.setCell,Array.getElem?_modify,hne]
 case stop=>
  rintro Dn c' xs V hDn hSp h hdef;exact h.elim
end Go.Proofs.YtheaeggecpfcbaaGreat
