/- pairing.boxes of any two right arrays, where through does what is meant. -/
import Derived.Test.YtmijanocljmaeaaGreatP2
import Derived.Test.YtmijanocljmaeaaGreatP3
import Derived.Test.YtmijanocljmaeaaGreatM1
set_option maxRecDepth 100000
set_option maxHeartbeats 32000000
set_option linter.unusedVariables false
set_option linter.unusedSimpArgs false
namespace Go.Proofs.YtmijanocljmaeaaGreat
open Go.RowKit
/-- What boxes tells of two arrays: an error, the cells, the item. -/
def boxS (d:Dy) (K L c:Nat) (a b:Tr):Int×Nat×Tr:=
 if (togS a.ns a.kids.length b.ns b.kids.length).1=0 then
  (let r:=thruS d K L c a b (togS a.ns a.kids.length b.ns b.kids.length).2
   if r.1=0 then (0,r.2.1,boxT r.2.2) else (r.1,r.2.1,tr0))
 else ((togS a.ns a.kids.length b.ns b.kids.length).1,c,tr0)
theorem togS_ok {sa sb:List Int} {na nb:Nat} (h:(togS sa na sb nb).1=0):(togS sa na sb nb).2=sa∨(togS sa na sb nb).2=sb:=by
 unfold togS at h ⊢
 split
 · exact Or.inl rfl
 · rename_i h1
   rw [if_neg h1] at h
   split
   · exact Or.inr rfl
   · rename_i h2
     rw [if_neg h2] at h
     split
     · exact Or.inl rfl
     · rename_i h3
       rw [if_neg h3] at h
       split at h <;> cases h
theorem Kp.set1 {p B:Nat} {w w':World} (k:Kp p w w') (hB:w.heap.size≤B) (o:Nat) (v:Value):Kp p w (w'.setCell ⟨B,o,none⟩ v):=
 ⟨k.os,k.tape,k.output,by rw [set1_size];exact k.size,fun g h1 h2=>by rw [set1_other (by show ¬ B=g;omega)];exact k.block g h1 h2⟩
theorem Kp.set6 {p B:Nat} {w w':World} (k:Kp p w w') (hB:w.heap.size≤B) (v0 v1 v2 v3 v4 v5:Value):Kp p w ((((((w'.setCell ⟨B,0,none⟩ v0).setCell ⟨B,1,none⟩ v1).setCell ⟨B,2,none⟩ v2).setCell ⟨B,3,none⟩ v3).setCell ⟨B,4,none⟩ v4).setCell ⟨B,5,none⟩ v5):=
 (((((k.set1 hB 0 v0).set1 hB 1 v1).set1 hB 2 v2).set1 hB 3 v3).set1 hB 4 v4).set1 hB 5 v5
theorem boxA_set6 {p B ty:Nat} {w:World} {xs:Array Value} (h:BoxA w p ty xs) (hB:B≠p) (v0 v1 v2 v3 v4 v5:Value):BoxA ((((((w.setCell ⟨B,0,none⟩ v0).setCell ⟨B,1,none⟩ v1).setCell ⟨B,2,none⟩ v2).setCell ⟨B,3,none⟩ v3).setCell ⟨B,4,none⟩ v4).setCell ⟨B,5,none⟩ v5) p ty xs:=by
 unfold BoxA at h ⊢;rw [set6_other hB];exact h
theorem IsIt.set6 {L Z B:Nat} {w:World} {v:IV} {t:Tr} (h:IsIt L (Fr Z w.heap.size) w v t) (hB:B<Z) (v0 v1 v2 v3 v4 v5:Value):IsIt L (Fr Z ((((((w.setCell ⟨B,0,none⟩ v0).setCell ⟨B,1,none⟩ v1).setCell ⟨B,2,none⟩ v2).setCell ⟨B,3,none⟩ v3).setCell ⟨B,4,none⟩ v4).setCell ⟨B,5,none⟩ v5).heap.size) ((((((w.setCell ⟨B,0,none⟩ v0).setCell ⟨B,1,none⟩ v1).setCell ⟨B,2,none⟩ v2).setCell ⟨B,3,none⟩ v3).setCell ⟨B,4,none⟩ v4).setCell ⟨B,5,none⟩ v5) v t:=
 h.imp (fun g hg=>⟨hg.1,by rw [set6_size];exact hg.2⟩) (fun g hg=>set6_other (by have:=hg.1;omega) _ _ _ _ _ _)
theorem kp_box {p g ty:Nat} {w w':World} {xs:Array Value} (k:Kp p w w') (h:BoxA w g ty xs) (hg:g≠p):BoxA w' g ty xs:=by
 have hl:=h.lt;unfold BoxA at h ⊢;rw [k.block g hl hg];exact h
section
variable {d:Dy} {K kf:Nat} {caps:Array Value} {p:Nat} {w0:World} {L:Nat}
theorem boxes5_any (hT:ThruOK d K kf caps p w0 L) {f:Nat} {D:Nat→Prop} {w:World} {c:Nat} {a b:Tr} {x1 x2 x3 x4:Option Addr} {y1 y2 y3 y4:Nat} (k00:Kp p w0 w) (hD:∀ g,D g→g<w.heap.size) (hDp:∀ g,D g→g≠p) (vA:ArV (f+1) D w (.slice x1 a.ns.length y1) (.slice x2 a.kids.length y2) a) (vB:ArV (f+1) D w (.slice x3 b.ns.length y3) (.slice x4 b.kids.length y4) b) (mA:(measF (L+1) a).isSome=true) (mB:(measF (L+1) b).isSome=true) (hc:c+(L+1)*134217728≤1099511627776) (P0:BoxA w p 90 #[.int .i32 d.gl,.func (.func kf) #[] caps,.int .i64 (c:Int),.int .i64 (K:Int)]) :
    Calls Tryz.prog 139 #[.pointer (some ⟨p,0,none⟩),.agg #[.slice x1 a.ns.length y1,.slice x2 a.kids.length y2],.agg #[.slice x3 b.ns.length y3,.slice x4 b.kids.length y4]] w fun e w'=>ItR w.heap.size (L+1) K (boxS d K (L+1) c a b) e w'∧Kp p w w'∧BoxA w' p 90 #[.int .i32 d.gl,.func (.func kf) #[] caps,.int .i64 (((boxS d K (L+1) c a b).2.1:Nat):Int),.int .i64 (K:Int)]:=by
 obtain ⟨LA,eA,_,sA2,_,_,okA⟩:=measF_some mA;obtain ⟨LB,eB,_,sB2,_,_,okB⟩:=measF_some mB;obtain rfl:LA=L:=by omega
 obtain rfl:LB=LA:=by omega
 clear eA eB;have HBX:Hid (boxS d K (LB+1) c a b=if (togS a.ns a.kids.length b.ns b.kids.length).1=0 then (let r:=thruS d K (LB+1) c a b (togS a.ns a.kids.length b.ns b.kids.length).2;if r.1=0 then (0,r.2.1,boxT r.2.2) else (r.1,r.2.1,tr0)) else ((togS a.ns a.kids.length b.ns b.kids.length).1,c,tr0)):=rfl;have pA:0<a.kids.length:=meas_pos mA;have pB:0<b.kids.length:=meas_pos mB;have k1:=below_alloc w (.cells #[.slice x1 a.ns.length y1,.slice x2 a.kids.length y2] 25);have k2:=below_alloc (w.alloc (.cells #[.slice x1 a.ns.length y1,.slice x2 a.kids.length y2] 25)) (.cells #[.slice x3 b.ns.length y3,.slice x4 b.kids.length y4] 25);have k3:=below_alloc ((w.alloc (.cells #[.slice x1 a.ns.length y1,.slice x2 a.kids.length y2] 25)).alloc (.cells #[.slice x3 b.ns.length y3,.slice x4 b.kids.length y4] 25)) (.cells #[.int .u8 0,.bool false,.slice none 0 0,.slice none 0 0,.int .i32 0,.slice none 0 0] 63);have k23:Below (w.alloc (.cells #[.slice x1 a.ns.length y1,.slice x2 a.kids.length y2] 25)).heap.size (w.alloc (.cells #[.slice x1 a.ns.length y1,.slice x2 a.kids.length y2] 25)) (((w.alloc (.cells #[.slice x1 a.ns.length y1,.slice x2 a.kids.length y2] 25)).alloc (.cells #[.slice x3 b.ns.length y3,.slice x4 b.kids.length y4] 25)).alloc (.cells #[.int .u8 0,.bool false,.slice none 0 0,.slice none 0 0,.int .i32 0,.slice none 0 0] 63)):=k2.trans (k3.mono (by simp));have g:Below w.heap.size w (((w.alloc (.cells #[.slice x1 a.ns.length y1,.slice x2 a.kids.length y2] 25)).alloc (.cells #[.slice x3 b.ns.length y3,.slice x4 b.kids.length y4] 25)).alloc (.cells #[.int .u8 0,.bool false,.slice none 0 0,.slice none 0 0,.int .i32 0,.slice none 0 0] 63)):=k1.trans (k23.mono (by simp));have XA:=(boxA_new w #[.slice x1 a.ns.length y1,.slice x2 a.kids.length y2] 25).below k23 (by simp);have XB:=(boxA_new (w.alloc (.cells #[.slice x1 a.ns.length y1,.slice x2 a.kids.length y2] 25)) #[.slice x3 b.ns.length y3,.slice x4 b.kids.length y4] 25).below k3 (by simp);have R:=boxA_new ((w.alloc (.cells #[.slice x1 a.ns.length y1,.slice x2 a.kids.length y2] 25)).alloc (.cells #[.slice x3 b.ns.length y3,.slice x4 b.kids.length y4] 25)) #[.int .u8 0,.bool false,.slice none 0 0,.slice none 0 0,.int .i32 0,.slice none 0 0] 63;have sz2:((w.alloc (.cells #[.slice x1 a.ns.length y1,.slice x2 a.kids.length y2] 25)).alloc (.cells #[.slice x3 b.ns.length y3,.slice x4 b.kids.length y4] 25)).heap.size=w.heap.size+1+1:=by simp
 have sz3:(((w.alloc (.cells #[.slice x1 a.ns.length y1,.slice x2 a.kids.length y2] 25)).alloc (.cells #[.slice x3 b.ns.length y3,.slice x4 b.kids.length y4] 25)).alloc (.cells #[.int .u8 0,.bool false,.slice none 0 0,.slice none 0 0,.int .i32 0,.slice none 0 0] 63)).heap.size=w.heap.size+1+1+1:=by simp
 rw [World.size_alloc] at XB;rw [sz2] at R;have lp:=P0.lt;have P3:=P0.below g lp;have HD:Hid (∀ g,D g→g<w.heap.size):=hD;have HDP:Hid (∀ g,D g→g≠p):=hDp;have HVA:Hid (ArV (f+1) D w (.slice x1 a.ns.length y1) (.slice x2 a.kids.length y2) a):=vA;have HVB:Hid (ArV (f+1) D w (.slice x3 b.ns.length y3) (.slice x4 b.kids.length y4) b):=vB;have HOA:Hid (∀ x∈a.kids,(measI (measF LB) x).isSome=true):=okA;have HOB:Hid (∀ x∈b.kids,(measI (measF LB) x).isSome=true):=okB;have HPA:Hid (0<a.kids.length):=pA;have HPB:Hid (0<b.kids.length):=pB;have HK0:Hid (Kp p w0 w):=k00;have HS:Hid ((togS a.ns a.kids.length b.ns b.kids.length).1=0→(sizeF (togS a.ns a.kids.length b.ns b.kids.length).2).2=0):=fun h=>by
  rcases togS_ok h with e | e
  · rw [e];exact sA2
  · rw [e];exact sB2
 have ag:Agree D w (((w.alloc (.cells #[.slice x1 a.ns.length y1,.slice x2 a.kids.length y2] 25)).alloc (.cells #[.slice x3 b.ns.length y3,.slice x4 b.kids.length y4] 25)).alloc (.cells #[.int .u8 0,.bool false,.slice none 0 0,.slice none 0 0,.int .i32 0,.slice none 0 0] 63)):=Agree.of g hD;have C1:=together5_any (n2:=a.kids.length) (y2:=y2) (x2:=x2) (n4:=b.kids.length) (y4:=y4) (x4:=x4) (fun g hg=>by have:=hD g hg;rw [sz3];omega) (vA.1.imp (fun _ h=>h) ag) (vB.1.imp (fun _ h=>h) ag);have HT:Hid (ThruOK d K kf caps p w0 LB):=hT;clear hD hDp vA vB mA mB okA okB sA2 sB2 pA pB k00 k1 k2 k3 k23 ag hT;obtain ⟨tg,htg⟩:∃ tg,togS a.ns a.kids.length b.ns b.kids.length=tg:=⟨_,rfl⟩;rw [htg] at C1 HBX HS;clear htg;obtain ⟨te,sh⟩:=tg;obtain ⟨nsa,hnsa⟩:∃ n,a.ns.length=n:=⟨_,rfl⟩;obtain ⟨nsb,hnsb⟩:∃ n,b.ns.length=n:=⟨_,rfl⟩;obtain ⟨na,hna⟩:∃ n,a.kids.length=n:=⟨_,rfl⟩;obtain ⟨nb,hnb⟩:∃ n,b.kids.length=n:=⟨_,rfl⟩;have HNA:Hid (a.kids.length=na):=hna;have HNB:Hid (b.kids.length=nb):=hnb;rw [hnsa,hna] at XA XB R P3 g C1 sz2 sz3 ⊢;rw [hnsb,hnb] at XA XB R P3 g C1 sz2 sz3 ⊢;clear hnsa hnsb hna hnb;have z0:=XA.cell 0 rfl;have z1:=XA.cell 1 rfl;have u0:=XB.cell 0 rfl;have u1:=XB.cell 1 rfl;go_enter Tryz.func139,Tryz.ntmps139
 go_wp2_with fail
 clear z0 z1 u0 u1;generalize hA3:((w.alloc (.cells #[.slice x1 nsa y1,.slice x2 na y2] 25)).alloc (.cells #[.slice x3 nsb y3,.slice x4 nb y4] 25)).alloc (.cells #[.int .u8 0,.bool false,.slice none 0 0,.slice none 0 0,.int .i32 0,.slice none 0 0] 63)=v at *;clear hA3;refine C1.mono ?_;rintro e w1 ⟨⟨x5,y5,rfl,hsh⟩,b1⟩;clear C1;have s1:=b1.size;have g1:Below w.heap.size w w1:=g.trans (b1.mono g.size);have R1:=R.below b1 (by omega);have XA1:=XA.below b1 (by omega);have XB1:=XB.below b1 (by omega);have P1:=P3.below b1 (by omega);by_cases hte:te=0
 · subst hte
   have HSH:Hid (RdN D v (.slice x5 sh.length y5) sh):=hsh;have HS2:Hid ((sizeF sh).2=0):=HS.out rfl;obtain ⟨r,hr⟩:∃ r,thruS d K (LB+1) c a b sh=r:=⟨_,rfl⟩;have HBX2:Hid (boxS d K (LB+1) c a b=if r.1=0 then (0,r.2.1,boxT r.2.2) else (r.1,r.2.1,tr0)):=by
    unfold Hid;rw [HBX.out,← hr];rfl
   have HR:Hid (thruS d K (LB+1) c a b sh=r):=hr;clear hsh hr;have z0:=XA1.cell 0 rfl;have z1:=XA1.cell 1 rfl;have u0:=XB1.cell 0 rfl;have u1:=XB1.cell 1 rfl
   go_wp2_with fail
   clear z0 z1 u0 u1;refine pairsOf5_any.mono ?_;rintro e w2 ⟨rfl,BA,BB,b2⟩;have s2:=b2.size;have g2:Below w.heap.size w w2:=g1.trans (b2.mono g1.size);have R2:=R1.below b2 (by omega);have P2:=P1.below b2 (by omega);have ag2:Agree D w w2:=Agree.of g2 HD.out;have gv:Below v.heap.size v w2:=b1.trans (b2.mono b1.size);have lA:=BA.lt;have lB:=BB.lt;have C3:=HT.out f D w2 w1.heap.size (w1.heap.size+1) c x2 y2 x4 y4 a b x5 y5 sh (HK0.out.trans (Kp.of_below g2)) (fun q hq=>by have:=HD.out q hq;omega) HDP.out
    ⟨by rw [HNA.out];exact BA.cell 1 rfl,RowB.imp HVA.out.2 (fun _ h=>h) (fun g o j hg _ hq=>hq.imp hg (fun _ h=>h) ag2 (fun _ _ _ h=>h.agree ag2)),HPA.out,HOA.out,by omega⟩
    ⟨by rw [HNB.out];exact BB.cell 1 rfl,RowB.imp HVB.out.2 (fun _ h=>h) (fun g o j hg _ hq=>hq.imp hg (fun _ h=>h) ag2 (fun _ _ _ h=>h.agree ag2)),HPB.out,HOB.out,by omega⟩
    (HSH.out.imp (fun _ h=>h) (fun q hq=>gv.block q (by have:=HD.out q hq;omega))) HS2.out hc P2
   rw [HR.out] at C3;obtain ⟨er,c2,T2⟩:=r
   go_wp2_with fail
   refine C3.mono ?_;rintro e w3 ⟨⟨x6,n6,y6,b6,m6,d6,rfl,HV,_⟩,k3,P3⟩;clear C3;have s3:=k3.size;have R3:=kp_box k3 R2 (by omega)
   go_wp2_with fail
   refine boxed5_any.mono ?_;rintro e w4 ⟨⟨v4,rfl,HV4⟩,b4⟩;have s4:=b4.size;have lp3:=P3.lt;have P4:=P3.below b4 lp3;have R9:=R3.below b4 (by omega);have r0:=R9.cell 0 rfl;have r1:=R9.cell 1 rfl;have r2:=R9.cell 2 rfl;have r3:=R9.cell 3 rfl;have r4:=R9.cell 4 rfl;have r5:=R9.cell 5 rfl;have f0:=R9.frozen 0;have f1:=R9.frozen 1;have f2:=R9.frozen 2;have f3:=R9.frozen 3;have f4:=R9.frozen 4;have f5:=R9.frozen 5;go_wp2
   have Q:=R9.set6 (.int .u8 v4.k) (.bool v4.b) (.slice v4.a1 v4.n1 v4.c1) (.slice v4.a2 v4.n2 v4.c2) (.int .i32 v4.c) (.slice v4.a3 v4.n3 v4.c3);have j0:=Q.cell 0 rfl;have j1:=Q.cell 1 rfl;have j2:=Q.cell 2 rfl;have j3:=Q.cell 3 rfl;have j4:=Q.cell 4 rfl;have j5:=Q.cell 5 rfl;refine bodyPost_ret (v:=.tuple #[.agg #[.int .u8 v4.k,.bool v4.b,.slice v4.a1 v4.n1 v4.c1,.slice v4.a2 v4.n2 v4.c2,.int .i32 v4.c,.slice v4.a3 v4.n3 v4.c3],.int .i64 er]) (by simp [results,Tryz.results139,go_sem,j0,j1,j2,j3,j4,j5]) rfl ?_;have kF:Kp p w w4:=((Kp.of_below g2).trans k3).trans (Kp.of_below b4);have P9:=boxA_set6 P4 (show w.heap.size+1+1≠p by omega) (.int .u8 v4.k) (.bool v4.b) (.slice v4.a1 v4.n1 v4.c1) (.slice v4.a2 v4.n2 v4.c2) (.int .i32 v4.c) (.slice v4.a3 v4.n3 v4.c3);by_cases her:er=0
   · subst her
     have hbx:boxS d K (LB+1) c a b=(0,c2,boxT T2):=by rw [HBX2.out];exact if_pos rfl
     rw [hbx];refine ⟨⟨v4,rfl,fun _ hK => ?_⟩,kF.set6 (by omega) _ _ _ _ _ _,P9⟩;obtain ⟨kb,rfl,hkb,BK⟩:=HV4.out rfl;have hA:=HV.out rfl hK;have hb:=isIt_box (t:=boxT T2) (a:=T2) rfl rfl rfl rfl rfl rfl rfl (by omega) BK hA b4;exact (hb.imp (fun q hq=>(⟨by have:=hq.1;omega,hq.2⟩:Fr (v.heap.size) w4.heap.size q)) (fun _ _=>rfl)).set6 (by omega) _ _ _ _ _ _ |>.imp (fun q hq=>⟨by have:=hq.1;omega,hq.2⟩) (fun _ _=>rfl)
   · have hbx:boxS d K (LB+1) c a b=(er,c2,tr0):=by rw [HBX2.out];exact if_neg her
     rw [hbx];exact ⟨⟨v4,rfl,fun h=>absurd h her⟩,kF.set6 (by omega) _ _ _ _ _ _,P9⟩
 · have hne:(te != 0)=true:=by rw [bne_iff_ne];exact hte
   have HBX2:Hid (boxS d K (LB+1) c a b=(te,c,tr0)):=by unfold Hid;rw [HBX.out];exact if_neg hte
   have HTE:Hid (te≠0):=hte;clear hte hsh;have R9:=R1;have r0:=R9.cell 0 rfl;have r1:=R9.cell 1 rfl;have r2:=R9.cell 2 rfl;have r3:=R9.cell 3 rfl;have r4:=R9.cell 4 rfl;have r5:=R9.cell 5 rfl;have f0:=R9.frozen 0;have f1:=R9.frozen 1;have f2:=R9.frozen 2;have f3:=R9.frozen 3;have f4:=R9.frozen 4;have f5:=R9.frozen 5;go_wp2
   have Q:=R9.set6 (.int .u8 0) (.bool false) (.slice none 0 0) (.slice none 0 0) (.int .i32 0) (.slice none 0 0);have j0:=Q.cell 0 rfl;have j1:=Q.cell 1 rfl;have j2:=Q.cell 2 rfl;have j3:=Q.cell 3 rfl;have j4:=Q.cell 4 rfl;have j5:=Q.cell 5 rfl;refine bodyPost_ret (v:=.tuple #[.agg #[.int .u8 0,.bool false,.slice none 0 0,.slice none 0 0,.int .i32 0,.slice none 0 0],.int .i64 te]) (by simp [results,Tryz.results139,go_sem,j0,j1,j2,j3,j4,j5]) rfl ?_;rw [HBX2.out];exact ⟨⟨iv0,rfl,fun h=>absurd h HTE.out⟩,(Kp.of_below g1).set6 (by omega) _ _ _ _ _ _,boxA_set6 P1 (show w.heap.size+1+1≠p by omega) _ _ _ _ _ _⟩
end
/-- A number as an item, or its error. -/
def numItem (r:Int×Tr) (c:Nat):Int×Nat×Tr:=if r.1=0 then (0,c,r.2) else (r.1,c,tr0)
section
variable {d:Dy} {K kf c L:Nat} {caps:Array Value} {p:Nat} {w0 w:World} {f:Nat} {D:Nat→Prop} {gx ox gy oy:Nat} {x y:Tr}
/-- What numbers tells of these two, from any world behind v. -/
def KNumE (v:World) (p:Nat) (X Y:Value) (r:Int×Tr):Prop:=Hid (∀ v',Below v.heap.size v v'→Calls Tryz.prog 141 #[.pointer (some ⟨p,0,none⟩),X,Y] v' fun e w'=>NumE v'.heap.size r.1 (fun b ns ds=>r.1=0→numT b ns ds=r.2) e w'∧Below v'.heap.size v' w')
theorem items5_num {bx cy:Bool} {a1 a2 a3 a4:Option Addr} {xn xd yn yd:List Int} {c1 c2 c3 c4:Nat} {r:Int×Tr} (lx:gx<w.heap.size) (ly:gy<w.heap.size) (lp:p<w.heap.size) (hc:w.cell? ⟨gx,ox,none⟩=some (.int .u8 1)∧w.cell? ⟨gx,ox+1,none⟩=some (.bool bx)∧w.cell? ⟨gx,ox+2,none⟩=some (.slice a1 xn.length c1)∧w.cell? ⟨gx,ox+3,none⟩=some (.slice a2 xd.length c2)∧w.cell? ⟨gy,oy,none⟩=some (.int .u8 1)∧w.cell? ⟨gy,oy+1,none⟩=some (.bool cy)∧w.cell? ⟨gy,oy+2,none⟩=some (.slice a3 yn.length c3)∧w.cell? ⟨gy,oy+3,none⟩=some (.slice a4 yd.length c4)) (hK:KNumE w p (.agg #[.bool bx,.slice a1 xn.length c1,.slice a2 xd.length c2]) (.agg #[.bool cy,.slice a3 yn.length c3,.slice a4 yd.length c4]) r) :
    Calls Tryz.prog 100 #[.pointer (some ⟨p,0,none⟩),.pointer (some ⟨gx,ox,none⟩),.pointer (some ⟨gy,oy,none⟩)] w fun e w'=>ItR w.heap.size L K (numItem r c) e w'∧Below w.heap.size w w':=by
 have k1:=below_alloc w (.cells #[.int .u8 0,.bool false,.slice none 0 0,.slice none 0 0,.int .i32 0,.slice none 0 0] 63);have R:=boxA_new w #[.int .u8 0,.bool false,.slice none 0 0,.slice none 0 0,.int .i32 0,.slice none 0 0] 63;have lR:=R.lt;have HC:Hid (∀ {w':World},Below (w.alloc (.cells #[.int .u8 0,.bool false,.slice none 0 0,.slice none 0 0,.int .i32 0,.slice none 0 0] 63)).heap.size (w.alloc (.cells #[.int .u8 0,.bool false,.slice none 0 0,.slice none 0 0,.int .i32 0,.slice none 0 0] 63)) w'→w'.cell? ⟨gx,ox,none⟩=some (.int .u8 1)∧w'.cell? ⟨gx,ox+1,none⟩=some (.bool bx)∧w'.cell? ⟨gx,ox+2,none⟩=some (.slice a1 xn.length c1)∧w'.cell? ⟨gx,ox+3,none⟩=some (.slice a2 xd.length c2)∧w'.cell? ⟨gy,oy,none⟩=some (.int .u8 1)∧w'.cell? ⟨gy,oy+1,none⟩=some (.bool cy)∧w'.cell? ⟨gy,oy+2,none⟩=some (.slice a3 yn.length c3)∧w'.cell? ⟨gy,oy+3,none⟩=some (.slice a4 yd.length c4)):=fun k=>⟨((k1.trans (k.mono (by omega))).cell (p:=⟨gx,ox,none⟩) lx).trans hc.1,((k1.trans (k.mono (by omega))).cell (p:=⟨gx,ox+1,none⟩) lx).trans hc.2.1,((k1.trans (k.mono (by omega))).cell (p:=⟨gx,ox+2,none⟩) lx).trans hc.2.2.1,((k1.trans (k.mono (by omega))).cell (p:=⟨gx,ox+3,none⟩) lx).trans hc.2.2.2.1,((k1.trans (k.mono (by omega))).cell (p:=⟨gy,oy,none⟩) ly).trans hc.2.2.2.2.1,((k1.trans (k.mono (by omega))).cell (p:=⟨gy,oy+1,none⟩) ly).trans hc.2.2.2.2.2.1,((k1.trans (k.mono (by omega))).cell (p:=⟨gy,oy+2,none⟩) ly).trans hc.2.2.2.2.2.2.1,((k1.trans (k.mono (by omega))).cell (p:=⟨gy,oy+3,none⟩) ly).trans hc.2.2.2.2.2.2.2⟩;obtain ⟨i0,_,_,_,i4,_,_,_⟩:=HC.out (Below.refl _ _);obtain ⟨er,T⟩:=r;go_enter Tryz.func100,Tryz.ntmps100;clear hc
 go_upto_region 4 with fail
 clear i0 i4;generalize hA:w.alloc (.cells #[.int .u8 0,.bool false,.slice none 0 0,.slice none 0 0,.int .i32 0,.slice none 0 0] 63)=v at *;clear hA;have d1:Below v.heap.size v v.drew:=⟨rfl,rfl,rfl,Nat.le_refl _,fun _ _=>rfl⟩;obtain ⟨e0,e1,e2,e3,e4,e5,e6,e7⟩:=HC.out d1;obtain ⟨e0',e1',e2',e3',e4',e5',e6',e7'⟩:=HC.out (Below.refl _ v);have HRW:Hid (∀ {w':World},Below v.heap.size v w'→BoxA w' w.heap.size 63 #[.int .u8 0,.bool false,.slice none 0 0,.slice none 0 0,.int .i32 0,.slice none 0 0]):=fun k=>R.below k lR;have K1:Hid (Calls Tryz.prog 141 #[.pointer (some ⟨p,0,none⟩),.agg #[.bool bx,.slice a1 xn.length c1,.slice a2 xd.length c2],.agg #[.bool cy,.slice a3 yn.length c3,.slice a4 yd.length c4]] v.drew fun e w'=>NumE v.drew.heap.size er (fun b ns ds=>er=0→numT b ns ds=T) e w'∧Below v.drew.heap.size v.drew w'):=hK.out v.drew (k1.trans (d1.mono k1.size));have sv:=k1.size
 first | go_region_with (first | (go_at_call 141;refine K1.out.mono ?_;rintro e w2 ⟨⟨b,z1,ns,u1,z2,ds,u2,rfl,ho1,ho2,hT⟩,q2⟩;have kk2:Below v.heap.size v w2:=d1.trans (q2.mono d1.size)) | (have kk2':=kk2;go_at_call 118;refine numbered5_any.mono ?_;rintro e w3 ⟨⟨v4,rfl,hv4⟩,q3⟩;have kk3:Below v.heap.size v w3:=kk2.trans (q3.mono kk2.size);have R9:=HRW.out kk3;have r0:=R9.cell 0 rfl;have r1:=R9.cell 1 rfl;have r2:=R9.cell 2 rfl;have r3:=R9.cell 3 rfl;have r4:=R9.cell 4 rfl;have r5:=R9.cell 5 rfl;have f0:=R9.frozen 0;have f1:=R9.frozen 1;have f2:=R9.frozen 2;have f3:=R9.frozen 3;have f4:=R9.frozen 4;have f5:=R9.frozen 5)) | fail
 all_goals
  have Q:=R9.set6 (.int .u8 v4.k) (.bool v4.b) (.slice v4.a1 v4.n1 v4.c1) (.slice v4.a2 v4.n2 v4.c2) (.int .i32 v4.c) (.slice v4.a3 v4.n3 v4.c3);have j0:=Q.cell 0 rfl;have j1:=Q.cell 1 rfl;have j2:=Q.cell 2 rfl;have j3:=Q.cell 3 rfl;have j4:=Q.cell 4 rfl;have j5:=Q.cell 5 rfl;go_wp2
  refine bodyPost_ret (v:=.tuple #[.agg #[.int .u8 v4.k,.bool v4.b,.slice v4.a1 v4.n1 v4.c1,.slice v4.a2 v4.n2 v4.c2,.int .i32 v4.c,.slice v4.a3 v4.n3 v4.c3],.int .i64 er]) (by simp [results,Tryz.results100,go_sem,j0,j1,j2,j3,j4,j5]) rfl ?_;refine ⟨?_,Below.set6 (k1.trans (kk3.mono k1.size)) (Nat.le_refl _) _ _ _ _ _ _⟩;unfold numItem;by_cases her:er=0
  · subst her
    rw [if_pos rfl];refine ⟨v4,rfl,fun _ _ => ?_⟩;rw [hv4.out rfl];have ht:numT b ns ds=T:=hT.out rfl;have o1:=(ho1.below q3 (Nat.le_refl _));have o2:=(ho2.below q3 (Nat.le_refl _));have hi:=isIt_num (f:=L) (t:=numT b ns ds) rfl rfl rfl o1 o2;rw [← ht];exact (hi.set6 (B:=w.heap.size) (by have:v.drew.heap.size=v.heap.size:=rfl;omega) _ _ _ _ _ _).imp (fun q hq=>⟨by have:=hq.1;have:v.drew.heap.size=v.heap.size:=rfl;omega,hq.2⟩) (fun _ _=>rfl)
  · rw [if_neg her]
    exact ⟨v4,rfl,fun h=>absurd h her⟩
end
section
variable {d:Dy} {K kf c L:Nat} {caps:Array Value} {p:Nat} {w0 w:World} {f:Nat} {D:Nat→Prop} {gx ox gy oy:Nat} {x y:Tr}
theorem numbers5_any (HU:Hid (UnOK d)) (HD:Hid (DoOK d kf caps p w0)) (hgl:d.gl≠42∧d.gl≠33) (k0:Kp p w0 w) {bx cy:Bool} {a1 a2 a3 a4:Option Addr} {xn xd yn yd:List Int} {c1 c2 c3 c4:Nat} (P0:BoxA w p 90 #[.int .i32 d.gl,.func (.func kf) #[] caps,.int .i64 (c:Int),.int .i64 (K:Int)]) (rx:RightP bx xn xd) (ry:RightP cy yn yd) (h1:Rd w.heap.size w (.slice a1 xn.length c1) xn) (h2:Rd w.heap.size w (.slice a2 xd.length c2) xd) (h3:Rd w.heap.size w (.slice a3 yn.length c3) yn) (h4:Rd w.heap.size w (.slice a4 yd.length c4) yd) :
    Calls Tryz.prog 141 #[.pointer (some ⟨p,0,none⟩),.agg #[.bool bx,.slice a1 xn.length c1,.slice a2 xd.length c2],.agg #[.bool cy,.slice a3 yn.length c3,.slice a4 yd.length c4]] w fun e w'=>NumR5 w.heap.size (numS d K c (numT bx xn xd) (numT cy yn yd)) e w'∧Below w.heap.size w w':=by
 by_cases hk:K<c
 · cases hs:smallS (numT bx xn xd) (numT cy yn yd) with
   | true=>
    have e:numS d K c (numT bx xn xd) (numT cy yn yd)=unS d (numT bx xn xd) (numT cy yn yd):=by unfold numS;rw [if_pos ⟨hk,hs⟩];rfl
    rw [e];exact numbers_A HU hgl k0 P0.lt (P0.cell 0 rfl) (P0.cell 1 rfl) (P0.cell 2 rfl) (P0.cell 3 rfl) (by omega) hs rx ry h1 h2 h3 h4
   | false=>
    have e:numS d K c (numT bx xn xd) (numT cy yn yd)=d.op (numT bx xn xd) (numT cy yn yd):=by unfold numS;rw [if_neg (by rw [hs];simp)]
    rw [e];exact numbers_B HD hgl k0 P0.lt (P0.cell 0 rfl) (P0.cell 1 rfl) (P0.cell 2 rfl) (P0.cell 3 rfl) (by omega) hs rx ry h1 h2 h3 h4
 · have e:numS d K c (numT bx xn xd) (numT cy yn yd)=d.op (numT bx xn xd) (numT cy yn yd):=by unfold numS;rw [if_neg (fun h=>hk h.1)]
   rw [e];exact numbers_C HD k0 P0.lt (P0.cell 0 rfl) (P0.cell 1 rfl) (P0.cell 2 rfl) (P0.cell 3 rfl) (by omega) rx ry h1 h2 h3 h4
end
section
variable {d:Dy} {K kf c L:Nat} {caps:Array Value} {p:Nat} {w0 w:World} {f:Nat} {D:Nat→Prop} {gx ox gy oy:Nat} {x y:Tr}
/-- A box among them. -/
theorem items5_box (hT:ThruOK d K kf caps p w0 L) (k00:Kp p w0 w) (hD:∀ g,D g→g<w.heap.size) (hDp:∀ g,D g→g≠p) (hX:ItIn f D w gx ox (L+1) x) (hY:ItIn f D w gy oy (L+1) y) (hk:x.k=3∨y.k=3) (hc:c+(L+1)*134217728≤1099511627776) (P0:BoxA w p 90 #[.int .i32 d.gl,.func (.func kf) #[] caps,.int .i64 (c:Int),.int .i64 (K:Int)]) :
    Calls Tryz.prog 100 #[.pointer (some ⟨p,0,none⟩),.pointer (some ⟨gx,ox,none⟩),.pointer (some ⟨gy,oy,none⟩)] w fun e w'=>ItR w.heap.size (L+1) K (boxS d K (L+1) c (openS x) (openS y)) e w'∧Kp p w w'∧BoxA w' p 90 #[.int .i32 d.gl,.func (.func kf) #[] caps,.int .i64 (((boxS d K (L+1) c (openS x) (openS y)).2.1:Nat):Int),.int .i64 (K:Int)]:=by
 have k1:=below_alloc w (.cells #[.int .u8 0,.bool false,.slice none 0 0,.slice none 0 0,.int .i32 0,.slice none 0 0] 63);have R0:=boxA_new w #[.int .u8 0,.bool false,.slice none 0 0,.slice none 0 0,.int .i32 0,.slice none 0 0] 63;have lp:=P0.lt;have P1:=P0.below k1 lp;have s1:w.heap.size<(w.alloc (.cells #[.int .u8 0,.bool false,.slice none 0 0,.slice none 0 0,.int .i32 0,.slice none 0 0] 63)).heap.size:=by simp
 have HOX:Hid (∀ u,Below w.heap.size w u→Calls Tryz.prog 140 #[.pointer (some ⟨gx,ox,none⟩)] u fun e w'=>OpR f D u x e w'∧Below u.heap.size u w'):=fun u ku=>opened_any (fun q hq=>Nat.lt_of_lt_of_le (hD q hq) ku.size) hX.hg (hX.lies.imp hX.hg (fun _ h=>h) (Agree.of ku hD) (fun _ _ _ h=>h.agree (Agree.of ku hD))) hX.ok;have HOY:Hid (∀ u,Below w.heap.size w u→Calls Tryz.prog 140 #[.pointer (some ⟨gy,oy,none⟩)] u fun e w'=>OpR f D u y e w'∧Below u.heap.size u w'):=fun u ku=>opened_any (fun q hq=>Nat.lt_of_lt_of_le (hD q hq) ku.size) hY.hg (hY.lies.imp hY.hg (fun _ h=>h) (Agree.of ku hD) (fun _ _ _ h=>h.agree (Agree.of ku hD))) hY.ok;have HMX:Hid ((measF (L+1) (openS x)).isSome=true):=open_meas hX.ok (Or.inr (by omega));have HMY:Hid ((measF (L+1) (openS y)).isSome=true):=open_meas hY.ok (Or.inr (by omega));have HD:Hid (∀ g,D g→g<w.heap.size):=hD;have HDP:Hid (∀ g,D g→g≠p):=hDp;have HK0:Hid (Kp p w0 w):=k00;have HT:Hid (ThruOK d K kf caps p w0 L):=hT;obtain ⟨_,_,_,_,_,_,⟨hx0,_⟩,_⟩:=hX.lies;obtain ⟨_,_,_,_,_,_,⟨hy0,_⟩,_⟩:=hY.lies;have e0:=(k1.cell (p:=⟨gx,ox,none⟩) (hD gx hX.hg)).trans hx0;have e1:=(k1.cell (p:=⟨gy,oy,none⟩) (hD gy hY.hg)).trans hy0;clear hD hDp k00 hT hX hY hx0 hy0;obtain ⟨kx,hkx⟩:∃ k,x.k=k:=⟨_,rfl⟩;obtain ⟨ky,hky⟩:∃ k,y.k=k:=⟨_,rfl⟩;rw [hkx] at e0 hk;rw [hky] at e1 hk;clear hkx hky;obtain ⟨X,hX⟩:∃ X,openS x=X:=⟨_,rfl⟩;obtain ⟨Y,hY⟩:∃ Y,openS y=Y:=⟨_,rfl⟩;unfold OpR at HOX HOY;rw [hX] at HOX HMX ⊢;rw [hY] at HOY HMY ⊢;clear hX hY;obtain ⟨r,hr⟩:∃ r,boxS d K (L+1) c X Y=r:=⟨_,rfl⟩;have HR:Hid (boxS d K (L+1) c X Y=r):=hr;rw [hr];clear hr;by_cases hx3:kx=3
 · subst hx3
   go_enter Tryz.func100,Tryz.ntmps100
   go_upto_region 1 with fail
   generalize hA:w.alloc (.cells #[.int .u8 0,.bool false,.slice none 0 0,.slice none 0 0,.int .i32 0,.slice none 0 0] 63)=v at *;clear hA
   go_wp2_with fail
   refine (HOX.out v k1).mono ?_;rintro e w1 ⟨⟨x1,y1,x2,y2,rfl,vA⟩,b1⟩;have t1:=b1.size;have VA:Hid (ArV (f+1) (fun g=>D g∨Fr v.heap.size w1.heap.size g) w1 (.slice x1 X.ns.length y1) (.slice x2 X.kids.length y2) X):=vA;clear vA;have g1:Below w.heap.size w w1:=k1.trans (b1.mono k1.size)
   go_wp2_with fail
   refine (HOY.out w1 g1).mono ?_;rintro e w2 ⟨⟨x3,y3,x4,y4,rfl,vB⟩,b2⟩;have t2:=b2.size;have VB:Hid (ArV (f+1) (fun g=>D g∨Fr w1.heap.size w2.heap.size g) w2 (.slice x3 Y.ns.length y3) (.slice x4 Y.kids.length y4) Y):=vB;clear vB;have g2:Below w.heap.size w w2:=g1.trans (b2.mono g1.size);have P2:=(P1.below b1 (by omega)).below b2 (by omega);have R2:=(R0.below b1 s1).below b2 (by omega);have C:=boxes5_any (D:=fun g=>D g∨Fr v.heap.size w2.heap.size g) HT.out (HK0.out.trans (Kp.of_below g2)) (fun q hq=>by
       rcases hq with hq | hq
       · have:=HD.out q hq;omega
       · exact hq.2) (fun q hq=>by
       rcases hq with hq | hq
       · exact HDP.out q hq
       · have:=hq.1;omega) (ArV.imp (fun q hq=>by
       rcases hq with hq | hq
       · exact Or.inl hq
       · exact Or.inr ⟨hq.1,by have:=hq.2;omega⟩) (fun q hq=>b2.block q (by
       rcases hq with hq | hq
       · have:=HD.out q hq;omega
       · exact hq.2)) _ _ _ _ _ (Nat.le_refl _) VA.out) (VB.out.mono (fun q hq=>by
       rcases hq with hq | hq
       · exact Or.inl hq
       · exact Or.inr ⟨by have:=hq.1;omega,hq.2⟩)) HMX.out HMY.out hc P2
   rw [HR.out] at C
   go_wp2_with fail
   refine C.mono ?_;rintro e w3 ⟨⟨v4,rfl,hv4⟩,k3,P3⟩;clear C;have t3:=k3.size;have R9:=kp_box k3 R2 (by omega);have r0:=R9.cell 0 rfl;have r1:=R9.cell 1 rfl;have r2:=R9.cell 2 rfl;have r3:=R9.cell 3 rfl;have r4:=R9.cell 4 rfl;have r5:=R9.cell 5 rfl;have f0:=R9.frozen 0;have f1:=R9.frozen 1;have f2:=R9.frozen 2;have f3:=R9.frozen 3;have f4:=R9.frozen 4;have f5:=R9.frozen 5;go_wp2
   have Q:=R9.set6 (.int .u8 v4.k) (.bool v4.b) (.slice v4.a1 v4.n1 v4.c1) (.slice v4.a2 v4.n2 v4.c2) (.int .i32 v4.c) (.slice v4.a3 v4.n3 v4.c3);have j0:=Q.cell 0 rfl;have j1:=Q.cell 1 rfl;have j2:=Q.cell 2 rfl;have j3:=Q.cell 3 rfl;have j4:=Q.cell 4 rfl;have j5:=Q.cell 5 rfl;refine bodyPost_ret (v:=.tuple #[.agg #[.int .u8 v4.k,.bool v4.b,.slice v4.a1 v4.n1 v4.c1,.slice v4.a2 v4.n2 v4.c2,.int .i32 v4.c,.slice v4.a3 v4.n3 v4.c3],.int .i64 r.1]) (by simp [results,Tryz.results100,go_sem,j0,j1,j2,j3,j4,j5]) rfl ?_;exact ⟨⟨v4,rfl,fun h1 h2=>((hv4.out h1 h2).set6 (B:=w.heap.size) (by omega) _ _ _ _ _ _).imp (fun q hq=>⟨by have:=hq.1;omega,hq.2⟩) (fun _ _=>rfl)⟩,((Kp.of_below g2).trans k3).set6 (Nat.le_refl _) _ _ _ _ _ _,boxA_set6 P3 (show w.heap.size≠p by omega) _ _ _ _ _ _⟩
 · obtain rfl:ky=3:=by
    rcases hk with h | h
    · exact absurd h hx3
    · exact h
   have hb3:(kx==3)=false:=by rw [beq_eq_false_iff_ne];exact hx3
   clear hk hx3;go_enter Tryz.func100,Tryz.ntmps100
   go_upto_region 1 with fail
   generalize hA:w.alloc (.cells #[.int .u8 0,.bool false,.slice none 0 0,.slice none 0 0,.int .i32 0,.slice none 0 0] 63)=v at *;clear hA
   go_wp2_with fail
   refine (HOX.out v k1).mono ?_;rintro e w1 ⟨⟨x1,y1,x2,y2,rfl,vA⟩,b1⟩;have t1:=b1.size;have VA:Hid (ArV (f+1) (fun g=>D g∨Fr v.heap.size w1.heap.size g) w1 (.slice x1 X.ns.length y1) (.slice x2 X.kids.length y2) X):=vA;clear vA;have g1:Below w.heap.size w w1:=k1.trans (b1.mono k1.size)
   go_wp2_with fail
   refine (HOY.out w1 g1).mono ?_;rintro e w2 ⟨⟨x3,y3,x4,y4,rfl,vB⟩,b2⟩;have t2:=b2.size;have VB:Hid (ArV (f+1) (fun g=>D g∨Fr w1.heap.size w2.heap.size g) w2 (.slice x3 Y.ns.length y3) (.slice x4 Y.kids.length y4) Y):=vB;clear vB;have g2:Below w.heap.size w w2:=g1.trans (b2.mono g1.size);have P2:=(P1.below b1 (by omega)).below b2 (by omega);have R2:=(R0.below b1 s1).below b2 (by omega);have C:=boxes5_any (D:=fun g=>D g∨Fr v.heap.size w2.heap.size g) HT.out (HK0.out.trans (Kp.of_below g2)) (fun q hq=>by
       rcases hq with hq | hq
       · have:=HD.out q hq;omega
       · exact hq.2) (fun q hq=>by
       rcases hq with hq | hq
       · exact HDP.out q hq
       · have:=hq.1;omega) (ArV.imp (fun q hq=>by
       rcases hq with hq | hq
       · exact Or.inl hq
       · exact Or.inr ⟨hq.1,by have:=hq.2;omega⟩) (fun q hq=>b2.block q (by
       rcases hq with hq | hq
       · have:=HD.out q hq;omega
       · exact hq.2)) _ _ _ _ _ (Nat.le_refl _) VA.out) (VB.out.mono (fun q hq=>by
       rcases hq with hq | hq
       · exact Or.inl hq
       · exact Or.inr ⟨by have:=hq.1;omega,hq.2⟩)) HMX.out HMY.out hc P2
   rw [HR.out] at C
   go_wp2_with fail
   refine C.mono ?_;rintro e w3 ⟨⟨v4,rfl,hv4⟩,k3,P3⟩;clear C;have t3:=k3.size;have R9:=kp_box k3 R2 (by omega);have r0:=R9.cell 0 rfl;have r1:=R9.cell 1 rfl;have r2:=R9.cell 2 rfl;have r3:=R9.cell 3 rfl;have r4:=R9.cell 4 rfl;have r5:=R9.cell 5 rfl;have f0:=R9.frozen 0;have f1:=R9.frozen 1;have f2:=R9.frozen 2;have f3:=R9.frozen 3;have f4:=R9.frozen 4;have f5:=R9.frozen 5;go_wp2
   have Q:=R9.set6 (.int .u8 v4.k) (.bool v4.b) (.slice v4.a1 v4.n1 v4.c1) (.slice v4.a2 v4.n2 v4.c2) (.int .i32 v4.c) (.slice v4.a3 v4.n3 v4.c3);have j0:=Q.cell 0 rfl;have j1:=Q.cell 1 rfl;have j2:=Q.cell 2 rfl;have j3:=Q.cell 3 rfl;have j4:=Q.cell 4 rfl;have j5:=Q.cell 5 rfl;refine bodyPost_ret (v:=.tuple #[.agg #[.int .u8 v4.k,.bool v4.b,.slice v4.a1 v4.n1 v4.c1,.slice v4.a2 v4.n2 v4.c2,.int .i32 v4.c,.slice v4.a3 v4.n3 v4.c3],.int .i64 r.1]) (by simp [results,Tryz.results100,go_sem,j0,j1,j2,j3,j4,j5]) rfl ?_;exact ⟨⟨v4,rfl,fun h1 h2=>((hv4.out h1 h2).set6 (B:=w.heap.size) (by omega) _ _ _ _ _ _).imp (fun q hq=>⟨by have:=hq.1;omega,hq.2⟩) (fun _ _=>rfl)⟩,((Kp.of_below g2).trans k3).set6 (Nat.le_refl _) _ _ _ _ _ _,boxA_set6 P3 (show w.heap.size≠p by omega) _ _ _ _ _ _⟩
end
section
variable {d:Dy} {K kf c L:Nat} {caps:Array Value} {p:Nat} {w0 w:World} {f:Nat} {D:Nat→Prop} {gx ox gy oy:Nat} {x y:Tr}
/-- A character among them: an error, but for = and ≠. -/
theorem items5_no (lx:gx<w.heap.size) (ly:gy<w.heap.size) (P0:BoxA w p 90 #[.int .i32 d.gl,.func (.func kf) #[] caps,.int .i64 (c:Int),.int .i64 (K:Int)]) (hX:w.cell? ⟨gx,ox,none⟩=some (.int .u8 x.k)) (hY:w.cell? ⟨gy,oy,none⟩=some (.int .u8 y.k)) (hk:(x.k=2∧(y.k=1∨y.k=2))∨(x.k=1∧y.k=2)) (hg1:d.gl≠61) (hg2:d.gl≠8800) :
    Calls Tryz.prog 100 #[.pointer (some ⟨p,0,none⟩),.pointer (some ⟨gx,ox,none⟩),.pointer (some ⟨gy,oy,none⟩)] w fun e w'=>ItR w.heap.size L K (3,c,tr0) e w'∧Below w.heap.size w w':=by
 have k1:=below_alloc w (.cells #[.int .u8 0,.bool false,.slice none 0 0,.slice none 0 0,.int .i32 0,.slice none 0 0] 63);have R9:=boxA_new w #[.int .u8 0,.bool false,.slice none 0 0,.slice none 0 0,.int .i32 0,.slice none 0 0] 63;have P1:=P0.below k1 P0.lt;have e0:=(k1.cell (p:=⟨gx,ox,none⟩) lx).trans hX;have e1:=(k1.cell (p:=⟨gy,oy,none⟩) ly).trans hY;have n1:(d.gl != 61)=true:=by rw [bne_iff_ne];exact hg1
 have n2:(d.gl != 8800)=true:=by rw [bne_iff_ne];exact hg2
 clear hX hY P0 hg1 hg2;rcases hk with ⟨hx,hy | hy⟩ | ⟨hx,hy⟩
 all_goals
  rw [hx] at e0;rw [hy] at e1;clear hx hy;go_enter Tryz.func100,Tryz.ntmps100
  go_upto_region 1 with fail
  generalize hA:w.alloc (.cells #[.int .u8 0,.bool false,.slice none 0 0,.slice none 0 0,.int .i32 0,.slice none 0 0] 63)=v at *;clear hA;have p0:=P1.cell 0 rfl;have r0:=R9.cell 0 rfl;have r1:=R9.cell 1 rfl;have r2:=R9.cell 2 rfl;have r3:=R9.cell 3 rfl;have r4:=R9.cell 4 rfl;have r5:=R9.cell 5 rfl;have f0:=R9.frozen 0;have f1:=R9.frozen 1;have f2:=R9.frozen 2;have f3:=R9.frozen 3;have f4:=R9.frozen 4;have f5:=R9.frozen 5;go_wp2
  have Q:=R9.set6 (.int .u8 0) (.bool false) (.slice none 0 0) (.slice none 0 0) (.int .i32 0) (.slice none 0 0);have j0:=Q.cell 0 rfl;have j1:=Q.cell 1 rfl;have j2:=Q.cell 2 rfl;have j3:=Q.cell 3 rfl;have j4:=Q.cell 4 rfl;have j5:=Q.cell 5 rfl;refine bodyPost_ret (v:=.tuple #[.agg #[.int .u8 0,.bool false,.slice none 0 0,.slice none 0 0,.int .i32 0,.slice none 0 0],.int .i64 3]) (by simp [results,Tryz.results100,go_sem,j0,j1,j2,j3,j4,j5]) rfl ?_;exact ⟨⟨iv0,rfl,(fun h=>by cases h)⟩,Below.set6 k1 (Nat.le_refl _) _ _ _ _ _ _⟩
end
section
variable {d:Dy} {K kf c L:Nat} {caps:Array Value} {p:Nat} {w0 w:World} {f:Nat} {D:Nat→Prop} {gx ox gy oy:Nat} {x y:Tr}
/-- A character among them, at = and ≠. -/
theorem items5_eq {kx ky cx cy gl:Int} {B:Bool} (lx:gx<w.heap.size) (ly:gy<w.heap.size) (P0:BoxA w p 90 #[.int .i32 gl,.func (.func kf) #[] caps,.int .i64 (c:Int),.int .i64 (K:Int)]) (hX:w.cell? ⟨gx,ox,none⟩=some (.int .u8 kx)∧w.cell? ⟨gx,ox+4,none⟩=some (.int .i32 cx)) (hY:w.cell? ⟨gy,oy,none⟩=some (.int .u8 ky)∧w.cell? ⟨gy,oy+4,none⟩=some (.int .i32 cy)) (hk:(kx=2∧(ky=1∨ky=2))∨(kx=1∧ky=2)) (hg:gl=61∨gl=8800) (hB:((decide (kx=ky) && decide (cx=cy))==decide (gl=61))=B) :
    Calls Tryz.prog 100 #[.pointer (some ⟨p,0,none⟩),.pointer (some ⟨gx,ox,none⟩),.pointer (some ⟨gy,oy,none⟩)] w fun e w'=>ItR w.heap.size L K (0,c,wholeT (bitI B)) e w'∧Below w.heap.size w w':=by
 have k1:=below_alloc w (.cells #[.int .u8 0,.bool false,.slice none 0 0,.slice none 0 0,.int .i32 0,.slice none 0 0] 63);have R0:=boxA_new w #[.int .u8 0,.bool false,.slice none 0 0,.slice none 0 0,.int .i32 0,.slice none 0 0] 63;have P1:=P0.below k1 P0.lt;have e0:=(k1.cell (p:=⟨gx,ox,none⟩) lx).trans hX.1;have e1:=(k1.cell (p:=⟨gy,oy,none⟩) ly).trans hY.1;have e4:=(k1.cell (p:=⟨gx,ox+4,none⟩) lx).trans hX.2;have e5:=(k1.cell (p:=⟨gy,oy+4,none⟩) ly).trans hY.2;have s1:w.heap.size<(w.alloc (.cells #[.int .u8 0,.bool false,.slice none 0 0,.slice none 0 0,.int .i32 0,.slice none 0 0] 63)).heap.size:=by simp
 clear hX hY P0;rcases hk with ⟨hx,hy | hy⟩ | ⟨hx,hy⟩ <;> rcases hg with hg | hg <;> by_cases hcc:cx=cy
 all_goals
  subst hx;subst hy;subst hg
  first | (have dcc:(cx==cy)=true:=by rw [beq_iff_eq];exact hcc) | (have dcc:(cx==cy)=false:=by rw [beq_eq_false_iff_ne];exact hcc)
  have hb:=hB;simp [hcc] at hb;subst hb;clear hB hcc;go_enter Tryz.func100,Tryz.ntmps100
  go_upto_region 1 with fail
  generalize hA:w.alloc (.cells #[.int .u8 0,.bool false,.slice none 0 0,.slice none 0 0,.int .i32 0,.slice none 0 0] 63)=v at *;clear hA;have lP:=P1.lt;have p0:=P1.cell 0 rfl
  go_wp2_with fail
  go_quiet (fail)
  have kq:Below v.heap.size v (v.drewN nq):=below_drewN' (Below.refl _ _) nq;have sq:=kq.size;have P6:=P1.below kq lP;have R6:=R0.below kq s1;generalize hq6:v.drewN nq=w6 at *;clear hq6 p0 e0 e1 e4 e5;have p0:=P6.cell 0 rfl
  go_wp2_with fail
  refine (truth_bit _ _).mono ?_;rintro e w7 ⟨⟨b,z1,ns,u1,z2,ds,u2,rfl,ho1,ho2,hT⟩,k7⟩;have s7:=k7.size;have R7:=R6.below k7 (by omega)
  go_wp2_with fail
  refine numbered5_any.mono ?_;rintro e w8 ⟨⟨v4,rfl,hv4⟩,k8⟩;have s8:=k8.size;have R9:=R7.below k8 (by omega);have r0:=R9.cell 0 rfl;have r1:=R9.cell 1 rfl;have r2:=R9.cell 2 rfl;have r3:=R9.cell 3 rfl;have r4:=R9.cell 4 rfl;have r5:=R9.cell 5 rfl;have f0:=R9.frozen 0;have f1:=R9.frozen 1;have f2:=R9.frozen 2;have f3:=R9.frozen 3;have f4:=R9.frozen 4;have f5:=R9.frozen 5;go_wp2
  have Q:=R9.set6 (.int .u8 v4.k) (.bool v4.b) (.slice v4.a1 v4.n1 v4.c1) (.slice v4.a2 v4.n2 v4.c2) (.int .i32 v4.c) (.slice v4.a3 v4.n3 v4.c3);have j0:=Q.cell 0 rfl;have j1:=Q.cell 1 rfl;have j2:=Q.cell 2 rfl;have j3:=Q.cell 3 rfl;have j4:=Q.cell 4 rfl;have j5:=Q.cell 5 rfl;refine bodyPost_ret (v:=.tuple #[.agg #[.int .u8 v4.k,.bool v4.b,.slice v4.a1 v4.n1 v4.c1,.slice v4.a2 v4.n2 v4.c2,.int .i32 v4.c,.slice v4.a3 v4.n3 v4.c3],.int .i64 0]) (by simp [results,Tryz.results100,go_sem,j0,j1,j2,j3,j4,j5]) rfl ?_;refine ⟨⟨v4,rfl,fun _ _ => ?_⟩,Below.set6 (((k1.trans (kq.mono k1.size)).trans (k7.mono (by omega))).trans (k8.mono (by omega))) (Nat.le_refl _) _ _ _ _ _ _⟩;rw [hv4.out (by trivial)];have hi:=isIt_num (f:=L) (t:=numT b ns ds) rfl rfl rfl (ho1.below k8 (Nat.le_refl _)) (ho2.below k8 (Nat.le_refl _));show IsIt L _ _ _ (wholeT _);rw [← hT.out];exact (hi.set6 (B:=w.heap.size) (by omega) _ _ _ _ _ _).imp (fun q hq=>⟨by have:=hq.1;omega,hq.2⟩) (fun _ _=>rfl)
end
end Go.Proofs.YtmijanocljmaeaaGreat
