/- The document's Same and SameItem of arrays that are the same. -/
import Derived.Test.YtheaeggecpfcbaaGreatK7
import Derived.Test.YtheaeggecpfcbaaGreatJ4
set_option maxRecDepth 100000
set_option maxHeartbeats 6400000
set_option linter.unusedVariables false
set_option linter.unusedSimpArgs false
namespace Go.Proofs.YtheaeggecpfcbaaGreat
open Go.RowKit
/-- Same answers true of two arrays that are the same, so many levels deep. -/
def SameOK (f:Nat):Prop:=∀ (D:Nat→Prop) (W:World) (x1:Option Addr) (n1 y1:Nat) (x2:Option Addr) (n2 y2:Nat) (z1:Option Addr) (m1 u1:Nat) (z2:Option Addr) (m2 u2:Nat) (t:Tr),(∀ g,D g→g<W.heap.size)→ArV f D W (.slice x1 n1 y1) (.slice x2 n2 y2) t→ArV f D W (.slice z1 m1 u1) (.slice z2 m2 u2) t →
 Calls Tryz.prog 13 #[.agg #[.slice x1 n1 y1,.slice x2 n2 y2],.agg #[.slice z1 m1 u1,.slice z2 m2 u2]] W fun e w'=>e=.returned (.bool true)∧Below W.heap.size W w'
section
variable {D:Nat→Prop} {f:Nat} {W:World} {a1 a2 a3 b1 b2 b3:Option Addr} {c1 c2 c3 d1 d2 d3:Nat} {t:Tr}
theorem sameItem_eq (hS:SameOK f) (hB:∀ g,D g→g<W.heap.size) (h1:ItV (ArV f D W) D W a1 c1 a2 c2 a3 c3 t) (h2:ItV (ArV f D W) D W b1 d1 b2 d2 b3 d3 t) :
    Calls Tryz.prog 35 #[.agg #[.int .u8 t.k,.bool t.b,.slice a1 t.ns.length c1,.slice a2 t.ds.length c2,.int .i32 t.c,.slice a3 t.kids.length c3],.agg #[.int .u8 t.k,.bool t.b,.slice b1 t.ns.length d1,.slice b2 t.ds.length d2,.int .i32 t.c,.slice b3 t.kids.length d3]] W fun e w'=>e=.returned (.bool true)∧Below W.heap.size W w':=by
 have HS:Hid (SameOK f):=hS;have H1:Hid (ItV (ArV f D W) D W a1 c1 a2 c2 a3 c3 t):=h1;have H2:Hid (ItV (ArV f D W) D W b1 d1 b2 d2 b3 d3 t):=h2;clear hS h1 h2;have k1:=below_alloc W (.cells #[.int .u8 t.k,.bool t.b,.slice a1 t.ns.length c1,.slice a2 t.ds.length c2,.int .i32 t.c,.slice a3 t.kids.length c3] 68);have k2:=below_alloc (W.alloc (.cells #[.int .u8 t.k,.bool t.b,.slice a1 t.ns.length c1,.slice a2 t.ds.length c2,.int .i32 t.c,.slice a3 t.kids.length c3] 68)) (.cells #[.int .u8 t.k,.bool t.b,.slice b1 t.ns.length d1,.slice b2 t.ds.length d2,.int .i32 t.c,.slice b3 t.kids.length d3] 68);have X:=(boxA_new W #[.int .u8 t.k,.bool t.b,.slice a1 t.ns.length c1,.slice a2 t.ds.length c2,.int .i32 t.c,.slice a3 t.kids.length c3] 68).below k2 (by simp);have Y:=boxA_new (W.alloc (.cells #[.int .u8 t.k,.bool t.b,.slice a1 t.ns.length c1,.slice a2 t.ds.length c2,.int .i32 t.c,.slice a3 t.kids.length c3] 68)) #[.int .u8 t.k,.bool t.b,.slice b1 t.ns.length d1,.slice b2 t.ds.length d2,.int .i32 t.c,.slice b3 t.kids.length d3] 68;rw [World.size_alloc] at Y;have sW:((W.alloc (.cells #[.int .u8 t.k,.bool t.b,.slice a1 t.ns.length c1,.slice a2 t.ds.length c2,.int .i32 t.c,.slice a3 t.kids.length c3] 68)).alloc (.cells #[.int .u8 t.k,.bool t.b,.slice b1 t.ns.length d1,.slice b2 t.ds.length d2,.int .i32 t.c,.slice b3 t.kids.length d3] 68)).heap.size=W.heap.size+2:=by simp
 have kW:Below W.heap.size W _:=k1.trans (k2.mono (by simp));clear k1 k2;have e0:(t.k != t.k)=false:=by simp
 have e1:(t.c != t.c)=false:=by simp
 have e2:((t.kids.length:Int) != (t.kids.length:Int))=false:=by simp
 have x0:=X.cell 0 rfl;have x1:=X.cell 1 rfl;have x2:=X.cell 2 rfl;have x3:=X.cell 3 rfl;have x4:=X.cell 4 rfl;have x5:=X.cell 5 rfl;have y0:=Y.cell 0 rfl;have y1:=Y.cell 1 rfl;have y2:=Y.cell 2 rfl;have y3:=Y.cell 3 rfl;have y4:=Y.cell 4 rfl;have y5:=Y.cell 5 rfl;go_enter Tryz.func35,Tryz.ntmps35
 go_wp2_with fail
 clear x0 x1 x2 x3 x4 x5 y0 y1 y2 y3 y4 y5;generalize hA:(W.alloc (.cells #[.int .u8 t.k,.bool t.b,.slice a1 t.ns.length c1,.slice a2 t.ds.length c2,.int .i32 t.c,.slice a3 t.kids.length c3] 68)).alloc (.cells #[.int .u8 t.k,.bool t.b,.slice b1 t.ns.length d1,.slice b2 t.ds.length d2,.int .i32 t.c,.slice b3 t.kids.length d3] 68)=v at *;clear hA;have kA:Agree D W v:=Agree.of kW hB;have hD:∀ g,D g→g<v.heap.size:=fun g h=>by have:=hB g h;omega
 have HB:Hid (∀ g,D g→g<W.heap.size):=hB;refine (same_rat ((H1.out.rn.imp (fun _ h=>h) kA).rd hD) ((H1.out.rd.imp (fun _ h=>h) kA).rd hD) ((H2.out.rn.imp (fun _ h=>h) kA).rd hD) ((H2.out.rd.imp (fun _ h=>h) kA).rd hD)).mono ?_;clear hB hD kA;rintro e w1 ⟨rfl,k1⟩;have s1:=k1.size;have X1:=X.below k1 (by omega);have Y1:=Y.below k1 (by omega);have x5:=X1.cell 5 rfl;have y5:=Y1.cell 5 rfl;go_wp2
 clear x5 y5;have kW1:Below W.heap.size W w1:=kW.trans (k1.mono (by omega))
 go_loopw [5] (fun iv wr=>∃ i:Nat,iv=.int .i64 i∧i≤t.kids.length∧Below w1.heap.size w1 wr) (fun iv _=>t.kids.length - (intOf iv).toNat)
 case atStart=>exact ⟨0,rfl,Nat.zero_le _,Below.refl _ _⟩
 case round=>
  obtain ⟨i,rfl,hil,hb⟩:=hrel;have hsz:=hb.size;have X2:=X1.below hb (by omega);have Y2:=Y1.below hb (by omega);have x5:=X2.cell 5 rfl;have y5:=Y2.cell 5 rfl;have hbW:Below W.heap.size W wr:=kW1.trans (hb.mono (by omega));have bd1:=H1.out.bx.bounds;have bd2:=H2.out.bx.bounds;by_cases hlt:i<t.kids.length
  · obtain ⟨g1,o1,rfl,hg1,hc1⟩:=H1.out.bx.ptr (by omega)
    obtain ⟨g2,o2,rfl,hg2,hc2⟩:=H2.out.bx.ptr (by omega);obtain ⟨p1,m1,q1,p2,m2,q2,e1,e2,hp⟩:=hc1 i hlt;obtain ⟨r1,l1,s1,r2,l2,s2,f1,f2,hr⟩:=hc2 i hlt;have E1:=(hbW.cell (p:=⟨g1,o1+i*2,none⟩) (HB.out g1 hg1)).trans e1;have E2:=(hbW.cell (p:=⟨g1,o1+i*2+1,none⟩) (HB.out g1 hg1)).trans e2;have F1:=(hbW.cell (p:=⟨g2,o2+i*2,none⟩) (HB.out g2 hg2)).trans f1;have F2:=(hbW.cell (p:=⟨g2,o2+i*2+1,none⟩) (HB.out g2 hg2)).trans f2;have HP:Hid (ArV f D wr (.slice p1 m1 q1) (.slice p2 m2 q2) (t.kids.getD i tr0)):=hp.agree (Agree.of hbW HB.out);have HR:Hid (ArV f D wr (.slice r1 l1 s1) (.slice r2 l2 s2) (t.kids.getD i tr0)):=hr.agree (Agree.of hbW HB.out);have HBr:Hid (∀ g,D g→g<wr.heap.size):=fun g h=>by have:=HB.out g h;have:=hbW.size;omega
    clear hc1 hc2 hp hr e1 e2 f1 f2
    go_wp2_with fail
    go_region_with (go_at_call 13;refine (HS.out D _ _ _ _ _ _ _ _ _ _ _ _ _ (t.kids.getD i tr0) (by first | exact HBr.out | (intro g hg;have:=HBr.out g hg;exact this)) (by first | exact HP.out | exact HP.out.agree (fun _ _=>rfl)) (by first | exact HR.out | exact HR.out.agree (fun _ _=>rfl))).mono ?_;rintro e w2 ⟨rfl,k2⟩)
    all_goals
     have k2':Below wr.heap.size wr w2:=by first | exact k2 | exact below_undrew k2
     go_wp2
     go_roundw
     case rel=>exact ⟨i+1,by go_num,by omega,hb.trans (k2'.mono (by omega))⟩
     case measure=>simp [intOf];omega
  · go_wp2
    go_ret
    exact ⟨rfl,hbW⟩
end
theorem same_step {f:Nat} (hS:SameOK f):SameOK (f+1):=by
 intro D W x1 n1 y1 x2 n2 y2 z1 m1 u1 z2 m2 u2 t hB h1 h2;obtain rfl:=h1.1.len;obtain rfl:=h2.1.len;obtain rfl:=h1.2.len;obtain rfl:=h2.2.len;have HS:Hid (SameOK f):=hS;have H1:Hid (ArV (f+1) D W (.slice x1 t.ns.length y1) (.slice x2 t.kids.length y2) t):=h1;have H2:Hid (ArV (f+1) D W (.slice z1 t.ns.length u1) (.slice z2 t.kids.length u2) t):=h2;have bd1:=h1.1.bounds;have bd2:=h2.1.bounds;have bd3:=h1.2.bounds;have bd4:=h2.2.bounds;have HB:Hid (∀ g,D g→g<W.heap.size):=hB;clear hS h1 h2 hB;have k1:=below_alloc W (.cells #[.slice x1 t.ns.length y1,.slice x2 t.kids.length y2] 25);have k2:=below_alloc (W.alloc (.cells #[.slice x1 t.ns.length y1,.slice x2 t.kids.length y2] 25)) (.cells #[.slice z1 t.ns.length u1,.slice z2 t.kids.length u2] 25);have X:=(boxA_new W #[.slice x1 t.ns.length y1,.slice x2 t.kids.length y2] 25).below k2 (by simp);have Y:=boxA_new (W.alloc (.cells #[.slice x1 t.ns.length y1,.slice x2 t.kids.length y2] 25)) #[.slice z1 t.ns.length u1,.slice z2 t.kids.length u2] 25;rw [World.size_alloc] at Y;have sW:((W.alloc (.cells #[.slice x1 t.ns.length y1,.slice x2 t.kids.length y2] 25)).alloc (.cells #[.slice z1 t.ns.length u1,.slice z2 t.kids.length u2] 25)).heap.size=W.heap.size+2:=by simp
 have kW:Below W.heap.size W _:=k1.trans (k2.mono (by simp));clear k1 k2;have e0:((t.ns.length:Int) != (t.ns.length:Int))=false:=by simp
 have e2:((t.kids.length:Int) != (t.kids.length:Int))=false:=by simp
 have p0:=X.cell 0 rfl;have p1:=X.cell 1 rfl;have q0:=Y.cell 0 rfl;have q1:=Y.cell 1 rfl;go_enter Tryz.func13,Tryz.ntmps13;go_wp2
 clear p0 p1 q0 q1;generalize hA:(W.alloc (.cells #[.slice x1 t.ns.length y1,.slice x2 t.kids.length y2] 25)).alloc (.cells #[.slice z1 t.ns.length u1,.slice z2 t.kids.length u2] 25)=v at *;clear hA
 go_loopw [5] (fun iv wr=>∃ i:Nat,iv=.int .i64 i∧i≤t.ns.length∧Below v.heap.size v wr) (fun iv _=>t.ns.length - (intOf iv).toNat)
 case atStart=>exact ⟨0,rfl,Nat.zero_le _,Below.refl _ _⟩
 case round=>
  obtain ⟨i,rfl,hil,hb⟩:=hrel;have hsz:=hb.size;have X2:=X.below hb (by omega);have Y2:=Y.below hb (by omega);have hbW:Below W.heap.size W wr:=kW.trans (hb.mono (by omega));have p0:=X2.cell 0 rfl;have q0:=Y2.cell 0 rfl;by_cases hlt:i<t.ns.length
  · obtain ⟨g1,o1,rfl,hg1,hc1⟩:=H1.out.1.ptr (by omega)
    obtain ⟨g2,o2,rfl,hg2,hc2⟩:=H2.out.1.ptr (by omega);have E1:=(hbW.cell (p:=⟨g1,o1+i,none⟩) (HB.out g1 hg1)).trans (hc1 i hlt);have E2:=(hbW.cell (p:=⟨g2,o2+i,none⟩) (HB.out g2 hg2)).trans (hc2 i hlt);clear hc1 hc2;generalize t.ns.getD i 0=Z at *;have hd:(Z != Z)=false:=by simp
    go_wp2
    go_region
    all_goals
     go_wp2
     go_roundw
     case rel=>exact ⟨i+1,by go_num,by omega,(by first | exact hb | exact hb.trans ⟨rfl,rfl,rfl,Nat.le_refl _,fun _ _=>rfl⟩)⟩
     case measure=>simp [intOf];omega
  · have p1:=X2.cell 1 rfl
    go_wp2
    clear p0 q0 p1
    go_loopw [6] (fun iv wr2=>∃ i:Nat,iv=.int .i64 i∧i≤t.kids.length∧Below wr.heap.size wr wr2) (fun iv _=>t.kids.length - (intOf iv).toNat)
    case atStart=>exact ⟨0,rfl,Nat.zero_le _,Below.refl _ _⟩
    case round=>
     obtain ⟨i,rfl,hil2,hb2⟩:=hrel;have hsz2:=hb2.size;have hbW2:=hbW.trans (hb2.mono (by have:=hbW.size;omega));have X3:=X2.below hb2 (by omega);have Y3:=Y2.below hb2 (by omega);have p1:=X3.cell 1 rfl;have q1:=Y3.cell 1 rfl;by_cases hlt2:i<t.kids.length
     · obtain ⟨g1,o1,rfl,hg1,hc1⟩:=H1.out.2.ptr (by omega)
       obtain ⟨g2,o2,rfl,hg2,hc2⟩:=H2.out.2.ptr (by omega);obtain ⟨a1,c1,a2,c2,a3,c3,⟨e0,e1,e2,e3,e4,e5⟩,hp⟩:=hc1 i hlt2;obtain ⟨b1,d1,b2,d2,b3,d3,⟨f0,f1,f2,f3,f4,f5⟩,hr⟩:=hc2 i hlt2;have E0:=(hbW2.cell (p:=⟨g1,o1+i*6,none⟩) (HB.out g1 hg1)).trans e0;have E1:=(hbW2.cell (p:=⟨g1,o1+i*6+1,none⟩) (HB.out g1 hg1)).trans e1;have E2:=(hbW2.cell (p:=⟨g1,o1+i*6+2,none⟩) (HB.out g1 hg1)).trans e2;have E3:=(hbW2.cell (p:=⟨g1,o1+i*6+3,none⟩) (HB.out g1 hg1)).trans e3;have E4:=(hbW2.cell (p:=⟨g1,o1+i*6+4,none⟩) (HB.out g1 hg1)).trans e4;have E5:=(hbW2.cell (p:=⟨g1,o1+i*6+5,none⟩) (HB.out g1 hg1)).trans e5;have F0:=(hbW2.cell (p:=⟨g2,o2+i*6,none⟩) (HB.out g2 hg2)).trans f0;have F1:=(hbW2.cell (p:=⟨g2,o2+i*6+1,none⟩) (HB.out g2 hg2)).trans f1;have F2:=(hbW2.cell (p:=⟨g2,o2+i*6+2,none⟩) (HB.out g2 hg2)).trans f2;have F3:=(hbW2.cell (p:=⟨g2,o2+i*6+3,none⟩) (HB.out g2 hg2)).trans f3;have F4:=(hbW2.cell (p:=⟨g2,o2+i*6+4,none⟩) (HB.out g2 hg2)).trans f4;have F5:=(hbW2.cell (p:=⟨g2,o2+i*6+5,none⟩) (HB.out g2 hg2)).trans f5;have HP:Hid (ItV (ArV f D wr) D wr a1 c1 a2 c2 a3 c3 (t.kids.getD i tr0)):=hp.agree (Agree.of hbW2 HB.out);have HR:Hid (ItV (ArV f D wr) D wr b1 d1 b2 d2 b3 d3 (t.kids.getD i tr0)):=hr.agree (Agree.of hbW2 HB.out);have HBr:Hid (∀ g,D g→g<wr.heap.size):=fun g h=>by have:=HB.out g h;have:=hbW2.size;omega
       clear hc1 hc2 hp hr e0 e1 e2 e3 e4 e5 f0 f1 f2 f3 f4 f5;generalize t.kids.getD i tr0=T at *;go_wp2
       go_region_with (go_at_call 35;refine (sameItem_eq HS.out (by first | exact HBr.out | (intro g hg;have:=HBr.out g hg;exact this)) (by first | exact HP.out | exact HP.out.agree (fun _ _=>rfl)) (by first | exact HR.out | exact HR.out.agree (fun _ _=>rfl))).mono ?_;rintro e w2 ⟨rfl,k2⟩)
       all_goals
        have k2':Below wr.heap.size wr w2:=by first | exact k2 | exact below_undrew k2
        go_wp2
        go_roundw
        case rel=>exact ⟨i+1,by go_num,by omega,hb2.trans (k2'.mono (by omega))⟩
        case measure=>simp [intOf];omega
     · go_wp2
       go_ret
       exact ⟨rfl,hbW2⟩
theorem same_all:∀ f,SameOK f
 | 0=>by intro D W x1 n1 y1 x2 n2 y2 z1 m1 u1 z2 m2 u2 t hB h1 h2;exact h1.elim
 | f+1=>same_step (same_all f)
end Go.Proofs.YtheaeggecpfcbaaGreat
