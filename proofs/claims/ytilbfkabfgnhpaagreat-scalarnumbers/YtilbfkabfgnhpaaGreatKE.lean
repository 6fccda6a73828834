/- A bool that tells whether something is so. -/
import Derived.Test.YtilbfkabfgnhpaaGreatJ1
import Derived.Test.YtilbfkabfgnhpaaGreatK11
import Derived.Test.YtilbfkabfgnhpaaGreatK8
import Derived.Test.YtilbfkabfgnhpaaGreatKA
set_option maxRecDepth 100000
set_option maxHeartbeats 16000000
set_option linter.unusedVariables false
set_option linter.unusedSimpArgs false
namespace Go.Proofs.YtilbfkabfgnhpaaGreat
open Go.RowKit
def AnsB (e:Ending) (P:Prop):Prop:=∃ β,e=.returned (.bool β)∧Hid (β=true↔P)
theorem equalN_walk (b1 o1 c1 b2 o2 c2 n:Nat) (xs:List Int) (w:World) (hb:n≤9223372036854775807)
    (k1:∀ j,j<n→w.cell? ⟨b1,o1+j,none⟩=some (.int .i64 (xs.getD j 0)))
    (k2:∀ j,j<n→w.cell? ⟨b2,o2+j,none⟩=some (.int .i64 (xs.getD j 0))) :
    Calls Tryz.prog 132 #[.slice (some ⟨b1,o1,none⟩) n c1,.slice (some ⟨b2,o2,none⟩) n c2] w fun e w'=>e=.returned (.bool true)∧∃ q,w'=w.drewN q:=by
 have K1:Hid (∀ j,j<n→w.cell? ⟨b1,o1+j,none⟩=some (.int .i64 (xs.getD j 0))):=k1;have K2:Hid (∀ j,j<n→w.cell? ⟨b2,o2+j,none⟩=some (.int .i64 (xs.getD j 0))):=k2;clear k1 k2;go_enter Tryz.func132,Tryz.ntmps132;go_wp2
 go_loopw [13] (fun s wr=>(∃ q,wr=w.drewN q)∧∃ j:Nat,j≤n∧s=.int .i64 j) (fun s _=>n - (intOf s).toNat)
 case atStart=>exact ⟨⟨0,rfl⟩,0,Nat.zero_le _,rfl⟩
 case round=>
  obtain ⟨⟨q,rfl⟩,j,hj,rfl⟩:=hrel;by_cases hlt:j<n
  · have g1:=K1.out j hlt
    have g2:=K2.out j hlt;generalize xs.getD j 0=p at *;go_wp2
    go_quiet (fail)
    go_wp2
    go_roundw
    case rel=>exact ⟨⟨_,rfl⟩,j+1,by omega,by go_num⟩
    case measure=>simp [intOf];omega
  · go_wp2
    go_ret
    exact ⟨rfl,_,rfl⟩
theorem equalN_rd {D D':Nat→Prop} {w:World} {v1 v2:Value} {xs:List Int} (h1:RdN D w v1 xs) (h2:RdN D' w v2 xs) :
    Calls Tryz.prog 132 #[v1,v2] w fun e w'=>e=.returned (.bool true)∧Below w.heap.size w w':=by
 obtain ⟨_,a1,c1,rfl,i1,j1,_,f1⟩:=h1;obtain ⟨_,a2,c2,rfl,i2,j2,_,f2⟩:=h2;by_cases h0:xs.length=0
 · rw [h0]
   refine (equal_shape a1 a2 c1 c2 w).mono ?_;rintro e w' ⟨rfl,rfl⟩;exact ⟨rfl,Below.refl _ _⟩
 · rcases f1 with f1 | ⟨b1,o1,rfl,_,k1⟩
   · exact absurd f1 h0
   rcases f2 with f2 | ⟨b2,o2,rfl,_,k2⟩
   · exact absurd f2 h0
   refine (equalN_walk b1 o1 c1 b2 o2 c2 xs.length xs w (by omega) k1 k2).mono ?_;rintro e w' ⟨rfl,q,rfl⟩;exact ⟨rfl,below_drewN' (Below.refl _ _) q⟩
/-- array.same of two arrays that are the same tree. -/
def SmeOK (f:Nat):Prop:=∀ (L:Nat) (D:Nat→Prop) (W:World) (x1:Option Addr) (n1 y1:Nat) (x2:Option Addr) (n2 y2:Nat) (x3:Option Addr) (n3 y3:Nat) (x4:Option Addr) (n4 y4:Nat) (t:Tr),(∀ g,D g→g<W.heap.size)→ArV f D W (.slice x1 n1 y1) (.slice x2 n2 y2) t→ArV f D W (.slice x3 n3 y3) (.slice x4 n4 y4) t→(measF L t).isSome=true →
 Calls Tryz.prog 81 #[.agg #[.slice x1 n1 y1,.slice x2 n2 y2],.agg #[.slice x3 n3 y3,.slice x4 n4 y4]] W fun e w'=>e=.returned (.bool true)∧Below W.heap.size W w'
section
variable {D:Nat→Prop} {f L:Nat} {w:World} {x y:IV} {t:Tr}
theorem sameItemA (hC:SmeOK f) (hD:∀ g,D g→g<w.heap.size) (hx:IsIt f D w x t) (hy:IsIt f D w y t) (hm:(measI (measF L) t).isSome=true) :
    Calls Tryz.prog 141 #[.agg #[.int .u8 x.k,.bool x.b,.slice x.a1 x.n1 x.c1,.slice x.a2 x.n2 x.c2,.int .i32 x.c,.slice x.a3 x.n3 x.c3],.agg #[.int .u8 y.k,.bool y.b,.slice y.a1 y.n1 y.c1,.slice y.a2 y.n2 y.c2,.int .i32 y.c,.slice y.a3 y.n3 y.c3]] w fun e w'=>e=.returned (.bool true)∧Below w.heap.size w w':=by
 have X0:=boxA_new w #[.int .u8 x.k,.bool x.b,.slice x.a1 x.n1 x.c1,.slice x.a2 x.n2 x.c2,.int .i32 x.c,.slice x.a3 x.n3 x.c3] 93;have k0:=below_alloc w (.cells #[.int .u8 x.k,.bool x.b,.slice x.a1 x.n1 x.c1,.slice x.a2 x.n2 x.c2,.int .i32 x.c,.slice x.a3 x.n3 x.c3] 93);have k1:=below_alloc (w.alloc (.cells #[.int .u8 x.k,.bool x.b,.slice x.a1 x.n1 x.c1,.slice x.a2 x.n2 x.c2,.int .i32 x.c,.slice x.a3 x.n3 x.c3] 93)) (.cells #[.int .u8 y.k,.bool y.b,.slice y.a1 y.n1 y.c1,.slice y.a2 y.n2 y.c2,.int .i32 y.c,.slice y.a3 y.n3 y.c3] 93);have Y:=boxA_new (w.alloc (.cells #[.int .u8 x.k,.bool x.b,.slice x.a1 x.n1 x.c1,.slice x.a2 x.n2 x.c2,.int .i32 x.c,.slice x.a3 x.n3 x.c3] 93)) #[.int .u8 y.k,.bool y.b,.slice y.a1 y.n1 y.c1,.slice y.a2 y.n2 y.c2,.int .i32 y.c,.slice y.a3 y.n3 y.c3] 93;rw [World.size_alloc] at Y;have X:=X0.below k1 (by simp);have g:Below w.heap.size w _:=k0.trans (k1.mono (by simp));have sv:((w.alloc (.cells #[.int .u8 x.k,.bool x.b,.slice x.a1 x.n1 x.c1,.slice x.a2 x.n2 x.c2,.int .i32 x.c,.slice x.a3 x.n3 x.c3] 93)).alloc (.cells #[.int .u8 y.k,.bool y.b,.slice y.a1 y.n1 y.c1,.slice y.a2 y.n2 y.c2,.int .i32 y.c,.slice y.a3 y.n3 y.c3] 93)).heap.size=w.heap.size+1+1:=by simp
 have hx2:=hx.agree (Agree.of g hD);have hy2:=hy.agree (Agree.of g hD);have hD2:∀ g',D g'→g'<((w.alloc (.cells #[.int .u8 x.k,.bool x.b,.slice x.a1 x.n1 x.c1,.slice x.a2 x.n2 x.c2,.int .i32 x.c,.slice x.a3 x.n3 x.c3] 93)).alloc (.cells #[.int .u8 y.k,.bool y.b,.slice y.a1 y.n1 y.c1,.slice y.a2 y.n2 y.c2,.int .i32 y.c,.slice y.a3 y.n3 y.c3] 93)).heap.size:=fun g' hg=>by have:=hD g' hg;omega
 have e1:=hx.k;have e2:=hy.k;have X0':=X.cell 0 rfl;have Y0':=Y.cell 0 rfl;rcases measI_cases hm with ⟨h1,h2,h3,h4⟩ | ⟨h1,h2,h3,h4⟩ | ⟨h1,h2,h3,h4,h5,h6⟩
 · have hb:(x.b==y.b)=true:=by rw [hx.b,hy.b];simp
   have r1:=hx2.v.rn.rd hD2;have r2:=hx2.v.rd.rd hD2;have r3:=hy2.v.rn.rd hD2;have r4:=hy2.v.rd.rd hD2;rw [← hx.n1] at r1;rw [← hx.n2] at r2;rw [← hy.n1] at r3;rw [← hy.n2] at r4;have X1:=X.cell 1 rfl;have X2:=X.cell 2 rfl;have X3:=X.cell 3 rfl;have Y1:=Y.cell 1 rfl;have Y2:=Y.cell 2 rfl;have Y3:=Y.cell 3 rfl;rw [h1] at e1 e2;obtain ⟨ns,hns⟩:∃ ns,t.ns=ns:=⟨_,rfl⟩;obtain ⟨ds,hds⟩:∃ ds,t.ds=ds:=⟨_,rfl⟩;rw [hns] at r1 r3;rw [hds] at r2 r4;have H1:Hid (Rd _ _ (.slice x.a1 x.n1 x.c1) ns):=r1;have H2:Hid (Rd _ _ (.slice x.a2 x.n2 x.c2) ds):=r2;have H3:Hid (Rd _ _ (.slice y.a1 y.n1 y.c1) ns):=r3;have H4:Hid (Rd _ _ (.slice y.a2 y.n2 y.c2) ds):=r4;obtain ⟨xk,xb,xa1,xn1,xc1,xa2,xn2,xc2,xc,xa3,xn3,xc3⟩:=x;obtain ⟨yk,yb,ya1,yn1,yc1,ya2,yn2,yc2,yc,ya3,yn3,yc3⟩:=y;simp only [] at e1 e2 hb;subst e1;subst e2;clear hx hy hx2 hy2 hm r1 r2 r3 r4 hns hds h1 h2 h3 h4;go_enter Tryz.func141,Tryz.ntmps141
   go_wp2_with fail
   clear X0' Y0' X1 X2 X3 Y1 Y2 Y3;refine (equal_rd H1.out H3.out).mono ?_;rintro e w1 ⟨rfl,j1⟩;have s1:=j1.size;have X3:=(X.below j1 (by omega)).cell 3 rfl;have Y3:=(Y.below j1 (by omega)).cell 3 rfl
   go_wp2_with fail
   refine (equal_rd (H2.out.below j1) (H4.out.below j1)).mono ?_;rintro e w2 ⟨rfl,j2⟩;go_wp2
   go_ret
   exact ⟨rfl,(g.trans (j1.mono g.size)).trans (j2.mono (by omega))⟩
 · have hc:(x.c==y.c)=true:=by rw [hx.c,hy.c];simp
   have X4:=X.cell 4 rfl;have Y4:=Y.cell 4 rfl;rw [h1] at e1 e2;obtain ⟨xk,xb,xa1,xn1,xc1,xa2,xn2,xc2,xc,xa3,xn3,xc3⟩:=x;obtain ⟨yk,yb,ya1,yn1,yc1,ya2,yn2,yc2,yc,ya3,yn3,yc3⟩:=y;simp only [] at e1 e2 hc;subst e1;subst e2;clear hx hy hx2 hy2 hm;go_enter Tryz.func141,Tryz.ntmps141;go_wp2
   go_ret
   exact ⟨rfl,g⟩
 · have e5:=hx.n3
   have e6:=hy.n3;rw [h4] at e5 e6;obtain ⟨g1,o1,ea,hg1,hc1⟩:=hx2.v.bx.ptr (by omega);obtain ⟨p1,m1,r1,p2,m2,r2,c1,c2,hv⟩:=hc1 0 (by omega);rw [Nat.zero_mul,Nat.add_zero] at c1 c2;obtain ⟨g2,o2,eb,hg2,hc2⟩:=hy2.v.bx.ptr (by omega);obtain ⟨p3,m3,r3,p4,m4,r4,c3,c4,hv2⟩:=hc2 0 (by omega);rw [Nat.zero_mul,Nat.add_zero] at c3 c4;have lg1:=hD g1 hg1;have lg2:=hD g2 hg2;rw [h1] at e1 e2;obtain ⟨xk,xb,xa1,xn1,xc1,xa2,xn2,xc2,xc,xa3,xn3,xc3⟩:=x;obtain ⟨yk,yb,ya1,yn1,yc1,ya2,yn2,yc2,yc,ya3,yn3,yc3⟩:=y;simp only [] at e1 e2 e5 e6 ea eb;subst e1;subst e2;subst e5;subst e6;subst ea;subst eb;have X5:=X.cell 5 rfl;have Y5:=Y.cell 5 rfl;generalize ha:t.kids.getD 0 tr0=a at *;have HV:Hid (ArV f D _ (.slice p1 m1 r1) (.slice p2 m2 r2) a):=hv;have HV2:Hid (ArV f D _ (.slice p3 m3 r3) (.slice p4 m4 r4) a):=hv2;have HC:Hid (SmeOK f):=hC;have HM:Hid ((measF L a).isSome=true):=h6;have HD:Hid (∀ g',D g'→g'<w.heap.size):=hD;clear hx hy hx2 hy2 hm hv hv2 hC hc1 hc2 h6 hD2 hD;go_enter Tryz.func141,Tryz.ntmps141
   go_upto_region 5 with fail
   generalize hA:(w.alloc (.cells #[.int .u8 3,.bool xb,.slice xa1 xn1 xc1,.slice xa2 xn2 xc2,.int .i32 xc,.slice (some ⟨g1,o1,none⟩) 1 xc3] 93)).alloc (.cells #[.int .u8 3,.bool yb,.slice ya1 yn1 yc1,.slice ya2 yn2 yc2,.int .i32 yc,.slice (some ⟨g2,o2,none⟩) 1 yc3] 93)=v at *;clear hA k0 k1 X0 X0' Y0';have d0:Below v.heap.size v v.drew:=⟨rfl,rfl,rfl,Nat.le_refl _,fun _ _=>rfl⟩;have hcells:∀ {w':World},Below v.heap.size v w'→w'.cell? ⟨w.heap.size,5,none⟩=some (.slice (some ⟨g1,o1,none⟩) 1 xc3)∧w'.cell? ⟨w.heap.size+1,5,none⟩=some (.slice (some ⟨g2,o2,none⟩) 1 yc3)∧w'.cell? ⟨g1,o1,none⟩=some (.slice p1 m1 r1)∧w'.cell? ⟨g1,o1+1,none⟩=some (.slice p2 m2 r2)∧w'.cell? ⟨g2,o2,none⟩=some (.slice p3 m3 r3)∧w'.cell? ⟨g2,o2+1,none⟩=some (.slice p4 m4 r4):=fun k=>⟨(X.below k (by omega)).cell 5 rfl,(Y.below k (by omega)).cell 5 rfl,(k.cell (p:=⟨g1,o1,none⟩) (by show g1<_;omega)).trans c1,(k.cell (p:=⟨g1,o1+1,none⟩) (by show g1<_;omega)).trans c2,(k.cell (p:=⟨g2,o2,none⟩) (by show g2<_;omega)).trans c3,(k.cell (p:=⟨g2,o2+1,none⟩) (by show g2<_;omega)).trans c4⟩;have j0:=hcells d0;have K1:Hid (Calls Tryz.prog 81 #[.agg #[.slice p1 m1 r1,.slice p2 m2 r2],.agg #[.slice p3 m3 r3,.slice p4 m4 r4]] v.drew fun e w'=>e=.returned (.bool true)∧Below v.drew.heap.size v.drew w'):=HC.out L D v.drew _ _ _ _ _ _ _ _ _ _ _ _ a (fun g' hg=>by have:=HD.out g' hg;show g'<v.heap.size;omega) (HV.out.agree (fun _ _=>rfl)) (HV2.out.agree (fun _ _=>rfl)) HM.out;have HCe:Hid (∀ {w':World},Below v.heap.size v w'→w'.cell? ⟨w.heap.size,5,none⟩=some (.slice (some ⟨g1,o1,none⟩) 1 xc3)∧w'.cell? ⟨w.heap.size+1,5,none⟩=some (.slice (some ⟨g2,o2,none⟩) 1 yc3)∧w'.cell? ⟨g1,o1,none⟩=some (.slice p1 m1 r1)∧w'.cell? ⟨g1,o1+1,none⟩=some (.slice p2 m2 r2)∧w'.cell? ⟨g2,o2,none⟩=some (.slice p3 m3 r3)∧w'.cell? ⟨g2,o2+1,none⟩=some (.slice p4 m4 r4)):=hcells;clear hcells X5 Y5 c1 c2 c3 c4
   go_region_held3 (fun w'=>w'.cell? ⟨w.heap.size,5,none⟩=some (.slice (some ⟨g1,o1,none⟩) 1 xc3)∧w'.cell? ⟨w.heap.size+1,5,none⟩=some (.slice (some ⟨g2,o2,none⟩) 1 yc3)∧w'.cell? ⟨g1,o1,none⟩=some (.slice p1 m1 r1)∧w'.cell? ⟨g1,o1+1,none⟩=some (.slice p2 m2 r2)∧w'.cell? ⟨g2,o2,none⟩=some (.slice p3 m3 r3)∧w'.cell? ⟨g2,o2+1,none⟩=some (.slice p4 m4 r4))
    (first | exact jj1 | exact j0)
    (first | (go_at_call 81;refine K1.out.mono ?_;rintro e w1 ⟨rfl,q1⟩;have kk1:Below v.heap.size v w1:=d0.trans (q1.mono d0.size);have jj1:=HCe.out kk1))
   go_wp2
   go_ret
   exact ⟨rfl,g.trans (kk1.mono (by omega))⟩
end
theorem equalFuncA {D:Nat→Prop} {f L:Nat} {w:World} {l:List Tr} {a1 a2:Option Addr} {c1 c2:Nat} (hC:SmeOK f) (hD:∀ g,D g→g<w.heap.size) (h1:RowB D l.length (.slice a1 l.length c1) (fun g o j=>ItC (ArV f D w) D w g (o+j*6) (l.getD j tr0))) (h2:RowB D l.length (.slice a2 l.length c2) (fun g o j=>ItC (ArV f D w) D w g (o+j*6) (l.getD j tr0))) (hm:∀ t∈l,(measI (measF L) t).isSome=true) :
    Calls Tryz.prog 140 #[.slice a1 l.length c1,.slice a2 l.length c2,.func (.func 141) #[] #[]] w fun e w'=>e=.returned (.bool true)∧Below w.heap.size w w':=by
 have bd1:=RowB.bounds h1;have bd2:=RowB.bounds h2;obtain ⟨L1,hl1,hr1,hi1⟩:=row_iv h1;obtain ⟨L2,hl2,hr2,hi2⟩:=row_iv h2;have HR1:Hid (RowIV D w (.slice a1 l.length c1) L1):=hr1;have HR2:Hid (RowIV D w (.slice a2 l.length c2) L2):=hr2;have HI1:Hid (∀ j,j<l.length→IsIt f D w (L1.getD j iv0) (l.getD j tr0)):=hi1;have HI2:Hid (∀ j,j<l.length→IsIt f D w (L2.getD j iv0) (l.getD j tr0)):=hi2;have HL1:Hid (L1.length=l.length):=hl1;have HL2:Hid (L2.length=l.length):=hl2;have HM:Hid (∀ t∈l,(measI (measF L) t).isSome=true):=hm;have HD:Hid (∀ g,D g→g<w.heap.size):=hD;have HC:Hid (SmeOK f):=hC;clear h1 h2 hr1 hr2 hi1 hi2 hl1 hl2 hm hD hC;go_enter Tryz.func140,Tryz.ntmps140;go_wp2
 go_loopw [17] (fun s wr=>∃ i:Nat,i≤l.length∧s=.int .i64 i∧Below w.heap.size w wr) (fun s _=>l.length - (intOf s).toNat)
 case atStart=>exact ⟨0,Nat.zero_le _,rfl,Below.refl _ _⟩
 case round=>
  obtain ⟨i,hil,rfl,kr⟩:=hrel;have sr:=kr.size;by_cases hlt:i<l.length
  · have hR1:=HR1.out
    have hR2:=HR2.out;unfold RowIV at hR1 hR2;rw [HL1.out] at hR1;rw [HL2.out] at hR2;obtain ⟨g1,o1,rfl,hg1,hc1⟩:=RowB.ptr hR1 (by omega);obtain ⟨g2,o2,rfl,hg2,hc2⟩:=RowB.ptr hR2 (by omega);have hx:=HI1.out i hlt;have hy:=HI2.out i hlt;have q1:=hc1 i hlt;have q2:=hc2 i hlt;have hmm:=HM.out _ (getD_memI hlt);generalize L1.getD i iv0=x at *;generalize L2.getD i iv0=y at *;generalize l.getD i tr0=t at *;have lg1:=HD.out g1 hg1;have lg2:=HD.out g2 hg2;have E:=q1.agree (D:=fun g=>g<w.heap.size) (fun q hq=>kr.block q hq) lg1;have kx:=below_alloc wr (.cells #[.int .u8 x.k,.bool x.b,.slice x.a1 x.n1 x.c1,.slice x.a2 x.n2 x.c2,.int .i32 x.c,.slice x.a3 x.n3 x.c3] 93);have ky:=below_alloc (wr.alloc (.cells #[.int .u8 x.k,.bool x.b,.slice x.a1 x.n1 x.c1,.slice x.a2 x.n2 x.c2,.int .i32 x.c,.slice x.a3 x.n3 x.c3] 93)) (.cells #[.int .u8 y.k,.bool y.b,.slice y.a1 y.n1 y.c1,.slice y.a2 y.n2 y.c2,.int .i32 y.c,.slice y.a3 y.n3 y.c3] 93);have kk:Below wr.heap.size wr _:=kx.trans (ky.mono kx.size);have BX:=boxA_new wr #[.int .u8 x.k,.bool x.b,.slice x.a1 x.n1 x.c1,.slice x.a2 x.n2 x.c2,.int .i32 x.c,.slice x.a3 x.n3 x.c3] 93;have BXy:=BX.below ky BX.lt;have BY:=boxA_new (wr.alloc (.cells #[.int .u8 x.k,.bool x.b,.slice x.a1 x.n1 x.c1,.slice x.a2 x.n2 x.c2,.int .i32 x.c,.slice x.a3 x.n3 x.c3] 93)) #[.int .u8 y.k,.bool y.b,.slice y.a1 y.n1 y.c1,.slice y.a2 y.n2 y.c2,.int .i32 y.c,.slice y.a3 y.n3 y.c3] 93;rw [World.size_alloc] at BY;have E2:=q2.agree (D:=fun g=>g<w.heap.size) (W':=wr.alloc (.cells #[.int .u8 x.k,.bool x.b,.slice x.a1 x.n1 x.c1,.slice x.a2 x.n2 x.c2,.int .i32 x.c,.slice x.a3 x.n3 x.c3] 93)) (fun q hq=>by rw [kx.block q (by omega)];exact kr.block q hq) lg2;obtain ⟨i0,i1,i2,i3,i4,i5⟩:=E;obtain ⟨l0,l1,l2,l3,l4,l5⟩:=E2;have m0:=BXy.cell 0 rfl;have m1:=BXy.cell 1 rfl;have m2:=BXy.cell 2 rfl;have m3:=BXy.cell 3 rfl;have m4:=BXy.cell 4 rfl;have m5:=BXy.cell 5 rfl;have n0:=BY.cell 0 rfl;have n1:=BY.cell 1 rfl;have n2:=BY.cell 2 rfl;have n3:=BY.cell 3 rfl;have n4:=BY.cell 4 rfl;have n5:=BY.cell 5 rfl;have T:Below w.heap.size w _:=kr.trans (kk.mono sr);have C:=sameItemA HC.out (fun q hq=>by have:=HD.out q hq;have:=T.size;omega) (hx.agree (Agree.of T HD.out)) (hy.agree (Agree.of T HD.out)) hmm;clear hx hy hmm hc1 hc2 q1 q2 hR1 hR2
    go_wp2_with fail
    refine C.mono ?_;rintro e wm ⟨rfl,km⟩;have T2:Below w.heap.size w wm:=T.trans (km.mono T.size);go_wp2
    go_roundw
    case rel=>exact ⟨i+1,by omega,by go_num,T2⟩
    case measure=>simp [intOf];omega
  · go_wp2
    go_ret
    exact ⟨rfl,kr⟩
theorem sameA_step {f:Nat} (hC:SmeOK f):SmeOK (f+1):=by
 intro L D w x1 n1 y1 x2 n2 y2 x3 n3 y3 x4 n4 y4 t hD h1 h2 hm;obtain ⟨L',rfl,_,_,_,_,m5⟩:=measF_some hm;obtain rfl:=h1.2.len;obtain rfl:=h2.2.len;have A0:=boxA_new w #[.slice x1 n1 y1,.slice x2 t.kids.length y2] 51;have k0:=below_alloc w (.cells #[.slice x1 n1 y1,.slice x2 t.kids.length y2] 51);have k1:=below_alloc (w.alloc (.cells #[.slice x1 n1 y1,.slice x2 t.kids.length y2] 51)) (.cells #[.slice x3 n3 y3,.slice x4 t.kids.length y4] 51);have C:=boxA_new (w.alloc (.cells #[.slice x1 n1 y1,.slice x2 t.kids.length y2] 51)) #[.slice x3 n3 y3,.slice x4 t.kids.length y4] 51;rw [World.size_alloc] at C;have A:=A0.below k1 (by simp);have g:Below w.heap.size w _:=k0.trans (k1.mono (by simp));have sv:((w.alloc (.cells #[.slice x1 n1 y1,.slice x2 t.kids.length y2] 51)).alloc (.cells #[.slice x3 n3 y3,.slice x4 t.kids.length y4] 51)).heap.size=w.heap.size+1+1:=by simp
 have H1:Hid (ArV (f+1) D w (.slice x1 n1 y1) (.slice x2 t.kids.length y2) t):=h1;have H2:Hid (ArV (f+1) D w (.slice x3 n3 y3) (.slice x4 t.kids.length y4) t):=h2;have HD:Hid (∀ g,D g→g<w.heap.size):=hD;have HM:Hid (∀ x∈t.kids,(measI (measF L') x).isSome=true):=m5;have HC:Hid (SmeOK f):=hC;clear h1 h2 hD m5 hm hC;have a0:=A.cell 0 rfl;have d0:=C.cell 0 rfl;go_enter Tryz.func81,Tryz.ntmps81
 go_wp2_with fail
 generalize hA:(w.alloc (.cells #[.slice x1 n1 y1,.slice x2 t.kids.length y2] 51)).alloc (.cells #[.slice x3 n3 y3,.slice x4 t.kids.length y4] 51)=v at *;clear hA a0 d0 k0 k1 A0;refine (equalN_rd (H1.out.1.imp (fun _ h=>h) (Agree.of g HD.out)) (H2.out.1.imp (fun _ h=>h) (Agree.of g HD.out))).mono ?_;rintro e w1 ⟨rfl,q1⟩;have s1:=q1.size;have kw:Below w.heap.size w w1:=g.trans (q1.mono g.size);have a1:=(A.below q1 (by omega)).cell 1 rfl;have d1:=(C.below q1 (by omega)).cell 1 rfl;have E:=equalFuncA (L:=L') HC.out (fun q hq=>by have:=HD.out q hq;have:=kw.size;omega) (RowB.imp H1.out.2 (fun _ h=>h) (fun g' o j hg hj hc=>hc.imp hg (fun _ h=>h) (Agree.of kw HD.out) (fun _ _ _ h=>h.agree (Agree.of kw HD.out)))) (RowB.imp H2.out.2 (fun _ h=>h) (fun g' o j hg hj hc=>hc.imp hg (fun _ h=>h) (Agree.of kw HD.out) (fun _ _ _ h=>h.agree (Agree.of kw HD.out)))) HM.out
 go_wp2_with fail
 refine E.mono ?_;rintro e w2 ⟨rfl,q2⟩;go_wp2
 go_ret
 exact ⟨rfl,kw.trans (q2.mono kw.size)⟩
theorem sameA_all:∀ f,SmeOK f
 | 0=>fun _ _ _ _ _ _ _ _ _ _ _ _ _ _ _ _ _ h _ _=>h.elim
 | f+1=>sameA_step (sameA_all f)
/-- array.Match of two right arrays that are the same tree. -/
theorem match_same {D:Nat→Prop} {f:Nat} {w:World} {x1:Option Addr} {n1 y1:Nat} {x2:Option Addr} {n2 y2:Nat} {x3:Option Addr} {n3 y3:Nat} {x4:Option Addr} {n4 y4:Nat} {t:Tr} (hD:∀ g,D g→g<w.heap.size) (h1:ArV f D w (.slice x1 n1 y1) (.slice x2 n2 y2) t) (h2:ArV f D w (.slice x3 n3 y3) (.slice x4 n4 y4) t) (hm:(measF 16 t).isSome=true) :
    Calls Tryz.prog 29 #[.agg #[.slice x1 n1 y1,.slice x2 n2 y2],.agg #[.slice x3 n3 y3,.slice x4 n4 y4]] w fun e w'=>e=.returned (.bool true)∧Below w.heap.size w w':=by
 have A0:=boxA_new w #[.slice x1 n1 y1,.slice x2 n2 y2] 51;have k0:=below_alloc w (.cells #[.slice x1 n1 y1,.slice x2 n2 y2] 51);have k1:=below_alloc (w.alloc (.cells #[.slice x1 n1 y1,.slice x2 n2 y2] 51)) (.cells #[.slice x3 n3 y3,.slice x4 n4 y4] 51);have C:=boxA_new (w.alloc (.cells #[.slice x1 n1 y1,.slice x2 n2 y2] 51)) #[.slice x3 n3 y3,.slice x4 n4 y4] 51;rw [World.size_alloc] at C;have A:=A0.below k1 (by simp);have g:Below w.heap.size w _:=k0.trans (k1.mono (by simp));have sv:((w.alloc (.cells #[.slice x1 n1 y1,.slice x2 n2 y2] 51)).alloc (.cells #[.slice x3 n3 y3,.slice x4 n4 y4] 51)).heap.size=w.heap.size+1+1:=by simp
 have H1:Hid (ArV f D w (.slice x1 n1 y1) (.slice x2 n2 y2) t):=h1;have H2:Hid (ArV f D w (.slice x3 n3 y3) (.slice x4 n4 y4) t):=h2;have HD:Hid (∀ g,D g→g<w.heap.size):=hD;have HM:Hid ((measF 16 t).isSome=true):=hm;clear h1 h2 hD hm;have a0:=A.cell 0 rfl;have a1:=A.cell 1 rfl;have C1:=right3_any (W:=(w.alloc (.cells #[.slice x1 n1 y1,.slice x2 n2 y2] 51)).alloc (.cells #[.slice x3 n3 y3,.slice x4 n4 y4] 51)) (fun q hq=>by have:=HD.out q hq;omega) (H1.out.agree (Agree.of g HD.out));rw [HM.out] at C1;go_enter Tryz.func29,Tryz.ntmps29
 go_wp2_with fail
 generalize hA:(w.alloc (.cells #[.slice x1 n1 y1,.slice x2 n2 y2] 51)).alloc (.cells #[.slice x3 n3 y3,.slice x4 n4 y4] 51)=v at *;clear hA a0 a1 k0 k1 A0;refine C1.mono ?_;rintro e w1 ⟨rfl,q1⟩;clear C1;have s1:=q1.size;have kw:Below w.heap.size w w1:=g.trans (q1.mono g.size);have d0:=(C.below q1 (by omega)).cell 0 rfl;have d1:=(C.below q1 (by omega)).cell 1 rfl;have C2:=right3_any (fun q hq=>by have:=HD.out q hq;have:=kw.size;omega) (H2.out.agree (Agree.of kw HD.out));rw [HM.out] at C2
 go_wp2_with fail
 refine C2.mono ?_;rintro e w2 ⟨rfl,q2⟩;clear C2 d0 d1;have s2:=q2.size;have kw2:Below w.heap.size w w2:=kw.trans (q2.mono kw.size);have v2:Below v.heap.size v w2:=q1.trans (q2.mono s1);have b0:=(A.below v2 (by omega)).cell 0 rfl;have b1:=(A.below v2 (by omega)).cell 1 rfl;have d0:=(C.below v2 (by omega)).cell 0 rfl;have d1:=(C.below v2 (by omega)).cell 1 rfl;have C3:=sameA_all f 16 D w2 _ _ _ _ _ _ _ _ _ _ _ _ t (fun q hq=>by have:=HD.out q hq;have:=kw2.size;omega) (H1.out.agree (Agree.of kw2 HD.out)) (H2.out.agree (Agree.of kw2 HD.out)) HM.out
 go_wp2_with fail
 refine C3.mono ?_;rintro e w3 ⟨rfl,q3⟩;go_wp2
 go_ret
 exact ⟨rfl,kw2.trans (q3.mono kw2.size)⟩
theorem equalN_no (b1 o1 c1 b2 o2 c2 n:Nat) (xs ys:List Int) (w:World) (hb:n≤9223372036854775807)
    (k1:∀ j,j<n→w.cell? ⟨b1,o1+j,none⟩=some (.int .i64 (xs.getD j 0)))
    (k2:∀ j,j<n→w.cell? ⟨b2,o2+j,none⟩=some (.int .i64 (ys.getD j 0))) (hne:¬ ∀ j,j<n→xs.getD j 0=ys.getD j 0) :
    Calls Tryz.prog 132 #[.slice (some ⟨b1,o1,none⟩) n c1,.slice (some ⟨b2,o2,none⟩) n c2] w fun e w'=>e=.returned (.bool false)∧Below w.heap.size w w':=by
 have K1:Hid (∀ j,j<n→w.cell? ⟨b1,o1+j,none⟩=some (.int .i64 (xs.getD j 0))):=k1;have K2:Hid (∀ j,j<n→w.cell? ⟨b2,o2+j,none⟩=some (.int .i64 (ys.getD j 0))):=k2;have HN:Hid (¬ ∀ j,j<n→xs.getD j 0=ys.getD j 0):=hne;clear k1 k2 hne;go_enter Tryz.func132,Tryz.ntmps132;go_wp2
 go_loopw [13] (fun s wr=>(∃ q,wr=w.drewN q)∧∃ j:Nat,j≤n∧s=.int .i64 j∧Hid (∀ i,i<j→xs.getD i 0=ys.getD i 0)) (fun s _=>n - (intOf s).toNat)
 case atStart=>exact ⟨⟨0,rfl⟩,0,Nat.zero_le _,rfl,fun i hi=>by omega⟩
 case round=>
  obtain ⟨⟨q,rfl⟩,j,hj,rfl,HE⟩:=hrel;by_cases hlt:j<n
  · have g1:=K1.out j hlt
    have g2:=K2.out j hlt;by_cases hpp:xs.getD j 0=ys.getD j 0
    · have HE2:Hid (∀ i,i<j+1→xs.getD i 0=ys.getD i 0):=by
       intro i hi;by_cases h:i=j
       · subst h;exact hpp
       · exact HE.out i (by omega)
      rw [← hpp] at g2;clear hpp;generalize xs.getD j 0=p at *;go_wp2
      go_quiet (fail)
      go_wp2
      go_roundw
      case rel=>exact ⟨⟨_,rfl⟩,j+1,by omega,by go_num,HE2⟩
      case measure=>simp [intOf];omega
    · generalize xs.getD j 0=p at *
      generalize ys.getD j 0=p' at *;have hpb:(p != p')=true:=by rw [bne_iff_ne];exact hpp
      have hpc:(p==p')=false:=by rw [beq_eq_false_iff_ne];exact hpp
      go_wp2
      go_quiet (fail)
      go_wp2
      go_ret
      exact ⟨rfl,below_drewN' (below_drewN' (Below.refl _ _) _) _⟩
  · exact absurd (fun i hi=>HE.out i (by omega)) HN.out
theorem equalN_len (a1 a2:Option Addr) (n m c1 c2:Nat) (w:World) (h:¬ n=m) :
    Calls Tryz.prog 132 #[.slice a1 n c1,.slice a2 m c2] w fun e w'=>e=.returned (.bool false)∧w=w':=by
 have hb:((n:Int) != (m:Int))=true:=by rw [bne_iff_ne];omega
 have hc:((n:Int)==(m:Int))=false:=by rw [beq_eq_false_iff_ne];omega
 go_enter Tryz.func132,Tryz.ntmps132;go_wp2
 go_ret
 exact ⟨rfl,rfl⟩
theorem equalN_any {D D':Nat→Prop} {w:World} {v1 v2:Value} {xs ys:List Int} (h1:RdN D w v1 xs) (h2:RdN D' w v2 ys) :
    Calls Tryz.prog 132 #[v1,v2] w fun e w'=>e=.returned (.bool (decide (xs=ys)))∧Below w.heap.size w w':=by
 by_cases hxy:xs=ys
 · subst hxy
   rw [decide_eq_true rfl];exact equalN_rd h1 h2
 · rw [decide_eq_false hxy]
   obtain ⟨_,a1,c1,rfl,i1,j1,_,f1⟩:=h1;obtain ⟨_,a2,c2,rfl,i2,j2,_,f2⟩:=h2;by_cases hl:xs.length=ys.length
   · by_cases h0:xs.length=0
     · exact absurd ((List.length_eq_zero_iff.1 h0).trans (List.length_eq_zero_iff.1 (hl ▸ h0)).symm) hxy
     · rcases f1 with f1 | ⟨b1,o1,rfl,_,k1⟩
       · exact absurd f1 h0
       rcases f2 with f2 | ⟨b2,o2,rfl,_,k2⟩
       · exact absurd (hl.trans f2) h0
       rw [← hl];refine (equalN_no b1 o1 c1 b2 o2 c2 xs.length xs ys w (by omega) k1 (fun j hj=>k2 j (by omega)) ?_).mono ?_
       · intro h
         refine hxy (List.ext_getElem hl fun i h1 h2 => ?_);have:=h i h1;simpa [List.getD,h1,h2] using this
       · exact fun e w' h=>h
   · refine (equalN_len a1 a2 xs.length ys.length c1 c2 w hl).mono ?_
     rintro e w' ⟨rfl,rfl⟩;exact ⟨rfl,Below.refl _ _⟩
section
variable {D:Nat→Prop} {f L L':Nat} {w:World} {x y:IV} {t s:Tr}
end
end Go.Proofs.YtilbfkabfgnhpaaGreat
