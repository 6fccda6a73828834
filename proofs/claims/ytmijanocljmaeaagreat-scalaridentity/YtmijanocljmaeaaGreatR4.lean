/- The document's Right, Depth and Cells. -/
import Derived.Test.YtmijanocljmaeaaGreatR2
import Derived.Test.YtmijanocljmaeaaGreatR3
import Derived.Test.YtmijanocljmaeaaGreatM4
import Derived.Test.YtmijanocljmaeaaGreatKE
import Derived.Test.YtmijanocljmaeaaGreatKT
set_option maxRecDepth 100000
set_option maxHeartbeats 6400000
set_option linter.unusedVariables false
set_option linter.unusedSimpArgs false
namespace Go.Proofs.YtmijanocljmaeaaGreat
open Go.RowKit
theorem rmeas_zero:RMeasOK 0:=by
 intro f D W x1 n1 y1 x2 n2 y2 t deep most hdeep hm0 hm1 hD h;obtain ⟨f,rfl⟩:∃ f',f=f'+1:=by
  cases f with
  | zero=>exact h.elim
  | succ f=>exact ⟨f,rfl⟩
 obtain rfl:=h.1.len;obtain rfl:=h.2.len;have bd1:=h.1.bounds;have H:Hid (ArV (f+1) D W (.slice x1 t.ns.length y1) (.slice x2 t.kids.length y2) t):=h;have HD:Hid (∀ g,D g→g<W.heap.size):=hD;have hdp:deep=17:=by omega
 subst hdp;clear h hD hdeep;have X:=boxA_new W #[.slice x1 t.ns.length y1,.slice x2 t.kids.length y2] 25;have g:=below_alloc W (.cells #[.slice x1 t.ns.length y1,.slice x2 t.kids.length y2] 25);have sv:(W.alloc (.cells #[.slice x1 t.ns.length y1,.slice x2 t.kids.length y2] 25)).heap.size=W.heap.size+1:=by simp
 have z0:=X.cell 0 rfl;have z1:=X.cell 1 rfl;go_enter Tryz.func70,Tryz.ntmps70
 go_wp2_with fail
 generalize hA:W.alloc (.cells #[.slice x1 t.ns.length y1,.slice x2 t.kids.length y2] 25)=v at *;clear hA;refine (refSize3_any (H.out.1.imp (fun _ h=>h) (Agree.of g HD.out)) (fun g hg=>by have:=HD.out g hg;omega)).mono ?_;rintro e w' ⟨rfl,hw⟩;obtain rfl:=hw.symm;generalize (sizeF t.ns).2=E at *;generalize (sizeF t.ns).1=N at *;by_cases he:E=0
 · have d1:(E != 0)=false:=by rw [bne_eq_false_iff_eq];exact he
   clear he;go_wp2
   go_ret3
   exact ⟨by rw [refF];rfl,g⟩
 · have d1:(E != 0)=true:=by rw [bne_iff_ne];exact he
   clear he;go_wp2
   go_ret3
   exact ⟨by rw [refF];rfl,g⟩
theorem rmeas_all:∀ L,L≤17→RMeasOK L
 | 0,_=>rmeas_zero
 | L+1,h=>rmeas_step (by omega) (rmeas_all L (by omega))
section
variable {D:Nat→Prop} {f:Nat} {W:World} {x1:Option Addr} {n1 y1:Nat} {x2:Option Addr} {n2 y2:Nat} {t:Tr}
theorem refRight3_any (hD:∀ g,D g→g<W.heap.size) (h:ArV f D W (.slice x1 n1 y1) (.slice x2 n2 y2) t):Calls Tryz.prog 33 #[.agg #[.slice x1 n1 y1,.slice x2 n2 y2]] W fun e w'=>e=.returned (.bool (measF 16 t).isSome)∧Below W.heap.size W w':=by
 have k0:=below_alloc W (.cells #[.slice x1 n1 y1,.slice x2 n2 y2] 25);have X0:=boxA_new W #[.slice x1 n1 y1,.slice x2 n2 y2] 25;have s0:W.heap.size<(W.alloc (.cells #[.slice x1 n1 y1,.slice x2 n2 y2] 25)).heap.size:=by simp
 have z0:=X0.cell 0 rfl;have z1:=X0.cell 1 rfl;have hm:=rmeas_all 17 (by omega) f D _ x1 n1 y1 x2 n2 y2 t 0 16384 (by omega) (by omega) (by omega) (fun g hg=>by have:=hD g hg;omega) (h.agree (Agree.of k0 hD));have HB:Hid (measF 16 t=match refF 17 t 16384 with | none=>none | some p=>if p.1≤16 then some p else none):=by unfold Hid;rw [both_meas t];cases refF 17 t 16384 <;> rfl
 go_enter Tryz.func33,Tryz.ntmps33
 go_wp2_with fail
 clear z0 z1 X0;generalize hA:W.alloc (.cells #[.slice x1 n1 y1,.slice x2 n2 y2] 25)=w0 at *;clear hA;refine hm.mono ?_;rintro e w' ⟨rfl,k⟩;clear hm
 cases hr:refF 17 t 16384 with
 | none=>
  have HF:Hid (measF 16 t=none):=by unfold Hid;rw [HB.out,hr]
  clear hr;unfold rEnd;dsimp only [Option.getD_none,Option.isSome_none];go_wp2
  go_ret
  exact ⟨by rw [HF.out];rfl,k0.trans (k.mono (by omega))⟩
 | some p=>
  obtain ⟨d,c⟩:=p;unfold rEnd;dsimp only [Option.getD_some,Option.isSome_some];by_cases hd:d≤16
  · have HF:Hid (measF 16 t=some (d,c)):=by unfold Hid;rw [HB.out,hr];simp only;rw [if_pos hd]
    clear hr;go_wp2
    go_ret
    exact ⟨by rw [HF.out];rfl,k0.trans (k.mono (by omega))⟩
  · have HF:Hid (measF 16 t=none):=by unfold Hid;rw [HB.out,hr];simp only;rw [if_neg hd]
    clear hr;go_wp2
    go_ret
    exact ⟨by rw [HF.out];rfl,k0.trans (k.mono (by omega))⟩
end
section
variable {w:World} {b b':Bool} {a1 a2 a3 a4:Option Addr} {c1 c2 c3 c4:Nat} {ns ds ms es:List Int}
/-- Two numbers, whatever they are. -/
theorem sameR_any (h1:Rd w.heap.size w (.slice a1 ns.length c1) ns) (h2:Rd w.heap.size w (.slice a2 ds.length c2) ds) (h3:Rd w.heap.size w (.slice a3 ms.length c3) ms) (h4:Rd w.heap.size w (.slice a4 es.length c4) es) :
    Calls Tryz.prog 46 #[.agg #[.bool b,.slice a1 ns.length c1,.slice a2 ds.length c2],.agg #[.bool b',.slice a3 ms.length c3,.slice a4 es.length c4]] w fun e w'=>AnsB e ((b=b'∧ns=ms∧ds=es))∧Below w.heap.size w w':=by
 obtain ⟨X,Y,b0⟩:=nvar_in2 (bx:=b) (cy:=b') h1 h2 h3 h4;have x0:=X.k0;have x1:=X.k1;have x2:=X.k2;have y0:=Y.k0;have y1:=Y.k1;have y2:=Y.k2;by_cases hbb:¬ b=b'
 · have hb:(b==b')=false:=by rw [beq_eq_false_iff_ne];exact hbb
   have HB:Hid (¬ b=b'):=hbb;clear hbb;go_enter Tryz.func46,Tryz.ntmps46;go_wp2
   go_ret
   exact ⟨⟨false,rfl,⟨fun h=>(by cases h),fun h=>absurd h.1 HB.out⟩⟩,b0⟩
 have hbb:b=b':=Decidable.not_not.1 hbb;have HB:Hid (b=b'):=hbb;have hb:(b==b')=true:=by rw [beq_iff_eq];exact hbb
 clear hbb;go_enter Tryz.func46,Tryz.ntmps46
 go_wp2_with fail
 clear x0 x1 x2 y0 y1 y2;generalize hA:(w.alloc (.cells #[.bool b,.slice a1 ns.length c1,.slice a2 ds.length c2] 33)).alloc (.cells #[.bool b',.slice a3 ms.length c3,.slice a4 es.length c4] 33)=v at *;clear hA;refine (refSame_any X.rn Y.rn).mono ?_;rintro e w1 ⟨rfl,k1⟩;replace X:=X.below k1;replace Y:=Y.below k1;have x2:=X.k2;have y2:=Y.k2;by_cases hns:¬ ns=ms
 · have HN:Hid (¬ ns=ms):=hns
   rw [decide_eq_false hns];clear hns;go_wp2
   go_ret
   exact ⟨⟨false,rfl,⟨fun h=>(by cases h),fun h=>absurd h.2.1 HN.out⟩⟩,b0.trans (k1.mono b0.size)⟩
 have hns:ns=ms:=Decidable.not_not.1 hns;have HN:Hid (ns=ms):=hns;rw [decide_eq_true hns];clear hns
 go_wp2_with fail
 refine (refSame_any X.rd Y.rd).mono ?_;rintro e w2 ⟨rfl,k2⟩;obtain ⟨β,hβ⟩:∃ β,decide (ds=es)=β:=⟨_,rfl⟩;have HBe:Hid (β=true↔ds=es):=by unfold Hid;rw [← hβ];exact decide_eq_true_iff
 rw [hβ];clear hβ;go_wp2
 go_ret
 exact ⟨⟨β,rfl,⟨fun h=>⟨HB.out,HN.out,HBe.out.1 h⟩,fun h=>HBe.out.2 h.2.2⟩⟩,(b0.trans (k1.mono b0.size)).trans (k2.mono (Nat.le_trans b0.size k1.size))⟩
end
/-- Are two items the same, as the document asks? -/
def eqRI (E:Tr→Tr→Prop) (t s:Tr):Prop:=t.k=s.k∧t.c=s.c∧(t.b=s.b∧t.ns=s.ns∧t.ds=s.ds)∧t.kids.length=s.kids.length∧∀ j,j<t.kids.length→E (t.kids.getD j tr0) (s.kids.getD j tr0)
def eqR:Nat→Tr→Tr→Prop
 | 0,_,_=>True
 | f+1,t,s=>t.ns.length=s.ns.length∧t.kids.length=s.kids.length∧(∀ j,j<t.ns.length→t.ns.getD j 0=s.ns.getD j 0)∧∀ j,j<t.kids.length→eqRI (eqR f) (t.kids.getD j tr0) (s.kids.getD j tr0)
def SamX (f:Nat):Prop:=∀ (D:Nat→Prop) (W:World) (x1:Option Addr) (n1 y1:Nat) (x2:Option Addr) (n2 y2:Nat) (z1:Option Addr) (m1 u1:Nat) (z2:Option Addr) (m2 u2:Nat) (t s:Tr),(∀ g,D g→g<W.heap.size)→ArV f D W (.slice x1 n1 y1) (.slice x2 n2 y2) t→ArV f D W (.slice z1 m1 u1) (.slice z2 m2 u2) s →
 Calls Tryz.prog 10 #[.agg #[.slice x1 n1 y1,.slice x2 n2 y2],.agg #[.slice z1 m1 u1,.slice z2 m2 u2]] W fun e w'=>AnsB e (eqR f t s)∧Below W.heap.size W w'
section
variable {D:Nat→Prop} {f:Nat} {W:World} {a1 a2 a3 b1 b2 b3:Option Addr} {c1 c2 c3 d1 d2 d3:Nat} {t s:Tr}
theorem sameItemRX (hS:SamX f) (hB:∀ g,D g→g<W.heap.size) (h1:ItV (ArV f D W) D W a1 c1 a2 c2 a3 c3 t) (h2:ItV (ArV f D W) D W b1 d1 b2 d2 b3 d3 s) :
    Calls Tryz.prog 24 #[.agg #[.int .u8 t.k,.bool t.b,.slice a1 t.ns.length c1,.slice a2 t.ds.length c2,.int .i32 t.c,.slice a3 t.kids.length c3],.agg #[.int .u8 s.k,.bool s.b,.slice b1 s.ns.length d1,.slice b2 s.ds.length d2,.int .i32 s.c,.slice b3 s.kids.length d3]] W fun e w'=>AnsB e (eqRI (eqR f) t s)∧Below W.heap.size W w':=by
 have HS:Hid (SamX f):=hS;have H1:Hid (ItV (ArV f D W) D W a1 c1 a2 c2 a3 c3 t):=h1;have H2:Hid (ItV (ArV f D W) D W b1 d1 b2 d2 b3 d3 s):=h2;clear hS h1 h2;have k1:=below_alloc W (.cells #[.int .u8 t.k,.bool t.b,.slice a1 t.ns.length c1,.slice a2 t.ds.length c2,.int .i32 t.c,.slice a3 t.kids.length c3] 63);have k2:=below_alloc (W.alloc (.cells #[.int .u8 t.k,.bool t.b,.slice a1 t.ns.length c1,.slice a2 t.ds.length c2,.int .i32 t.c,.slice a3 t.kids.length c3] 63)) (.cells #[.int .u8 s.k,.bool s.b,.slice b1 s.ns.length d1,.slice b2 s.ds.length d2,.int .i32 s.c,.slice b3 s.kids.length d3] 63);have X:=(boxA_new W #[.int .u8 t.k,.bool t.b,.slice a1 t.ns.length c1,.slice a2 t.ds.length c2,.int .i32 t.c,.slice a3 t.kids.length c3] 63).below k2 (by simp);have Y:=boxA_new (W.alloc (.cells #[.int .u8 t.k,.bool t.b,.slice a1 t.ns.length c1,.slice a2 t.ds.length c2,.int .i32 t.c,.slice a3 t.kids.length c3] 63)) #[.int .u8 s.k,.bool s.b,.slice b1 s.ns.length d1,.slice b2 s.ds.length d2,.int .i32 s.c,.slice b3 s.kids.length d3] 63;rw [World.size_alloc] at Y;have sW:((W.alloc (.cells #[.int .u8 t.k,.bool t.b,.slice a1 t.ns.length c1,.slice a2 t.ds.length c2,.int .i32 t.c,.slice a3 t.kids.length c3] 63)).alloc (.cells #[.int .u8 s.k,.bool s.b,.slice b1 s.ns.length d1,.slice b2 s.ds.length d2,.int .i32 s.c,.slice b3 s.kids.length d3] 63)).heap.size=W.heap.size+2:=by simp
 have kW:Below W.heap.size W _:=k1.trans (k2.mono (by simp));clear k1 k2;have x0:=X.cell 0 rfl;have x1:=X.cell 1 rfl;have x2:=X.cell 2 rfl;have x3:=X.cell 3 rfl;have x4:=X.cell 4 rfl;have x5:=X.cell 5 rfl;have y0:=Y.cell 0 rfl;have y1:=Y.cell 1 rfl;have y2:=Y.cell 2 rfl;have y3:=Y.cell 3 rfl;have y4:=Y.cell 4 rfl;have y5:=Y.cell 5 rfl;go_enter Tryz.func24,Tryz.ntmps24;by_cases hk:¬ t.k=s.k
 · have hd:(t.k != s.k)=true:=by rw [bne_iff_ne];exact hk
   have HK:Hid (¬ t.k=s.k):=hk;clear hk;go_wp2
   go_ret
   exact ⟨⟨false,rfl,⟨fun h=>(by cases h),fun h=>absurd h.1 HK.out⟩⟩,kW⟩
 have hk:t.k=s.k:=Decidable.not_not.1 hk;have HK:Hid (t.k=s.k):=hk;have hd:(t.k != s.k)=false:=by rw [hk];simp
 clear hk;by_cases hc:¬ t.c=s.c
 · have hdc:(t.c != s.c)=true:=by rw [bne_iff_ne];exact hc
   have HCc:Hid (¬ t.c=s.c):=hc;clear hc;go_wp2
   go_ret
   exact ⟨⟨false,rfl,⟨fun h=>(by cases h),fun h=>absurd h.2.1 HCc.out⟩⟩,kW⟩
 have hc:t.c=s.c:=Decidable.not_not.1 hc;have HCc:Hid (t.c=s.c):=hc;have hdc:(t.c != s.c)=false:=by rw [hc];simp
 clear hc
 go_wp2_with fail
 clear x0 x1 x2 x3 x4 x5 y0 y1 y2 y3 y4 y5 hd hdc;generalize hA:(W.alloc (.cells #[.int .u8 t.k,.bool t.b,.slice a1 t.ns.length c1,.slice a2 t.ds.length c2,.int .i32 t.c,.slice a3 t.kids.length c3] 63)).alloc (.cells #[.int .u8 s.k,.bool s.b,.slice b1 s.ns.length d1,.slice b2 s.ds.length d2,.int .i32 s.c,.slice b3 s.kids.length d3] 63)=v at *;clear hA;have kA:Agree D W v:=Agree.of kW hB;have hD:∀ g,D g→g<v.heap.size:=fun g h=>by have:=hB g h;omega
 have HB:Hid (∀ g,D g→g<W.heap.size):=hB;refine (sameR_any ((H1.out.rn.imp (fun _ h=>h) kA).rd hD) ((H1.out.rd.imp (fun _ h=>h) kA).rd hD) ((H2.out.rn.imp (fun _ h=>h) kA).rd hD) ((H2.out.rd.imp (fun _ h=>h) kA).rd hD)).mono ?_;clear hB hD kA;rintro e w1 ⟨⟨β,rfl,hβ⟩,k1⟩;have s1:=k1.size;have X1:=X.below k1 (by omega);have Y1:=Y.below k1 (by omega);have x5:=X1.cell 5 rfl;have y5:=Y1.cell 5 rfl;have kW1:Below W.heap.size W w1:=kW.trans (k1.mono (by omega))
 cases β
 · go_wp2
   go_ret
   exact ⟨⟨false,rfl,⟨fun h=>(by cases h),fun h=>hβ.out.2 h.2.2.1⟩⟩,kW1⟩
 have HNum:Hid (t.b=s.b∧t.ns=s.ns∧t.ds=s.ds):=hβ.out.1 rfl;clear hβ;by_cases hl:¬ t.kids.length=s.kids.length
 · have hdl:((t.kids.length:Int) != (s.kids.length:Int))=true:=by rw [bne_iff_ne];omega
   have HL:Hid (¬ t.kids.length=s.kids.length):=hl;clear hl;go_wp2
   go_ret
   exact ⟨⟨false,rfl,⟨fun h=>(by cases h),fun h=>absurd h.2.2.2.1 HL.out⟩⟩,kW1⟩
 have hl:t.kids.length=s.kids.length:=Decidable.not_not.1 hl;have hdl:((t.kids.length:Int) != (s.kids.length:Int))=false:=by rw [hl];simp
 go_wp2
 clear x5 y5 hdl
 go_loopw [5] (fun iv wr=>∃ i:Nat,iv=.int .i64 i∧i≤t.kids.length∧Hid (∀ j,j<i→eqR f (t.kids.getD j tr0) (s.kids.getD j tr0))∧Below w1.heap.size w1 wr) (fun iv _=>t.kids.length - (intOf iv).toNat)
 case atStart=>exact ⟨0,rfl,Nat.zero_le _,fun j hj=>by omega,Below.refl _ _⟩
 case round=>
  obtain ⟨i,rfl,hil,HE,hb⟩:=hrel;have hsz:=hb.size;have X2:=X1.below hb (by omega);have Y2:=Y1.below hb (by omega);have x5:=X2.cell 5 rfl;have y5:=Y2.cell 5 rfl;have hbW:Below W.heap.size W wr:=kW1.trans (hb.mono (by omega));have bd1:=H1.out.bx.bounds;have bd2:=H2.out.bx.bounds;by_cases hlt:i<t.kids.length
  · obtain ⟨g1,o1,rfl,hg1,hc1⟩:=H1.out.bx.ptr (by omega)
    obtain ⟨g2,o2,rfl,hg2,hc2⟩:=H2.out.bx.ptr (by omega);obtain ⟨p1,m1,q1,p2,m2,q2,e1,e2,hp⟩:=hc1 i hlt;obtain ⟨r1,l1,s1,r2,l2,s2,f1,f2,hr⟩:=hc2 i (by omega);have E1:=(hbW.cell (p:=⟨g1,o1+i*2,none⟩) (HB.out g1 hg1)).trans e1;have E2:=(hbW.cell (p:=⟨g1,o1+i*2+1,none⟩) (HB.out g1 hg1)).trans e2;have F1:=(hbW.cell (p:=⟨g2,o2+i*2,none⟩) (HB.out g2 hg2)).trans f1;have F2:=(hbW.cell (p:=⟨g2,o2+i*2+1,none⟩) (HB.out g2 hg2)).trans f2;have HP:Hid (ArV f D wr (.slice p1 m1 q1) (.slice p2 m2 q2) (t.kids.getD i tr0)):=hp.agree (Agree.of hbW HB.out);have HR:Hid (ArV f D wr (.slice r1 l1 s1) (.slice r2 l2 s2) (s.kids.getD i tr0)):=hr.agree (Agree.of hbW HB.out);have HBr:Hid (∀ g,D g→g<wr.heap.size):=fun g h=>by have:=HB.out g h;have:=hbW.size;omega
    have hlt2:i<s.kids.length:=by omega
    clear hc1 hc2 hp hr e1 e2 f1 f2
    go_wp2_with fail
    go_region_with (go_at_call 10;refine (HS.out D _ _ _ _ _ _ _ _ _ _ _ _ _ (t.kids.getD i tr0) (s.kids.getD i tr0) (by first | exact HBr.out | (intro g hg;have:=HBr.out g hg;exact this)) (by first | exact HP.out | exact HP.out.agree (fun _ _=>rfl)) (by first | exact HR.out | exact HR.out.agree (fun _ _=>rfl))).mono ?_;rintro e w2 ⟨⟨β,rfl,hβ⟩,k2⟩)
    all_goals
     have k2':Below wr.heap.size wr w2:=by first | exact k2 | exact below_undrew k2
     cases β
     · go_wp2
       go_ret
       exact ⟨⟨false,rfl,⟨fun h=>(by cases h),fun h=>hβ.out.2 (h.2.2.2.2 i hlt)⟩⟩,hbW.trans (k2'.mono hbW.size)⟩
     · have HE2:Hid (∀ j,j<i+1→eqR f (t.kids.getD j tr0) (s.kids.getD j tr0)):=by
        intro j hj;by_cases h:j=i
        · subst h;exact hβ.out.1 rfl
        · exact HE.out j (by omega)
       go_wp2
       go_roundw
       case rel=>exact ⟨i+1,by go_num,by omega,HE2,hb.trans (k2'.mono (by omega))⟩
       case measure=>simp [intOf];omega
  · go_wp2
    go_ret
    exact ⟨⟨true,rfl,⟨fun _=>⟨HK.out,HCc.out,HNum.out,hl,fun j hj=>HE.out j (by omega)⟩,fun _=>rfl⟩⟩,hbW⟩
end
theorem sameRX_step {f:Nat} (hS:SamX f):SamX (f+1):=by
 intro D W x1 n1 y1 x2 n2 y2 z1 m1 u1 z2 m2 u2 t s hB h1 h2;obtain rfl:=h1.1.len;obtain rfl:=h2.1.len;obtain rfl:=h1.2.len;obtain rfl:=h2.2.len;have HS:Hid (SamX f):=hS;have H1:Hid (ArV (f+1) D W (.slice x1 t.ns.length y1) (.slice x2 t.kids.length y2) t):=h1;have H2:Hid (ArV (f+1) D W (.slice z1 s.ns.length u1) (.slice z2 s.kids.length u2) s):=h2;have bd1:=h1.1.bounds;have bd2:=h2.1.bounds;have bd3:=h1.2.bounds;have bd4:=h2.2.bounds;have HB:Hid (∀ g,D g→g<W.heap.size):=hB;clear hS h1 h2 hB;have k1:=below_alloc W (.cells #[.slice x1 t.ns.length y1,.slice x2 t.kids.length y2] 25);have k2:=below_alloc (W.alloc (.cells #[.slice x1 t.ns.length y1,.slice x2 t.kids.length y2] 25)) (.cells #[.slice z1 s.ns.length u1,.slice z2 s.kids.length u2] 25);have X:=(boxA_new W #[.slice x1 t.ns.length y1,.slice x2 t.kids.length y2] 25).below k2 (by simp);have Y:=boxA_new (W.alloc (.cells #[.slice x1 t.ns.length y1,.slice x2 t.kids.length y2] 25)) #[.slice z1 s.ns.length u1,.slice z2 s.kids.length u2] 25;rw [World.size_alloc] at Y;have sW:((W.alloc (.cells #[.slice x1 t.ns.length y1,.slice x2 t.kids.length y2] 25)).alloc (.cells #[.slice z1 s.ns.length u1,.slice z2 s.kids.length u2] 25)).heap.size=W.heap.size+2:=by simp
 have kW:Below W.heap.size W _:=k1.trans (k2.mono (by simp));clear k1 k2;have p0:=X.cell 0 rfl;have p1:=X.cell 1 rfl;have q0:=Y.cell 0 rfl;have q1:=Y.cell 1 rfl;go_enter Tryz.func10,Tryz.ntmps10;by_cases hl1:¬ t.ns.length=s.ns.length
 · have hd:((t.ns.length:Int) != (s.ns.length:Int))=true:=by rw [bne_iff_ne];omega
   have HL:Hid (¬ t.ns.length=s.ns.length):=hl1;clear hl1;go_wp2
   go_ret
   exact ⟨⟨false,rfl,⟨fun h=>(by cases h),fun h=>absurd h.1 HL.out⟩⟩,kW⟩
 have hl1:t.ns.length=s.ns.length:=Decidable.not_not.1 hl1;have HL1:Hid (t.ns.length=s.ns.length):=hl1;have e0:((t.ns.length:Int) != (s.ns.length:Int))=false:=by rw [hl1];simp
 clear hl1;by_cases hl2:¬ t.kids.length=s.kids.length
 · have hd:((t.kids.length:Int) != (s.kids.length:Int))=true:=by rw [bne_iff_ne];omega
   have HL:Hid (¬ t.kids.length=s.kids.length):=hl2;clear hl2;go_wp2
   go_ret
   exact ⟨⟨false,rfl,⟨fun h=>(by cases h),fun h=>absurd h.2.1 HL.out⟩⟩,kW⟩
 have hl2:t.kids.length=s.kids.length:=Decidable.not_not.1 hl2;have HL2:Hid (t.kids.length=s.kids.length):=hl2;have e2:((t.kids.length:Int) != (s.kids.length:Int))=false:=by rw [hl2];simp
 clear hl2;go_wp2
 clear p0 p1 q0 q1;generalize hA:(W.alloc (.cells #[.slice x1 t.ns.length y1,.slice x2 t.kids.length y2] 25)).alloc (.cells #[.slice z1 s.ns.length u1,.slice z2 s.kids.length u2] 25)=v at *;clear hA e0 e2
 go_loopw [5] (fun iv wr=>∃ i:Nat,iv=.int .i64 i∧i≤t.ns.length∧Hid (∀ j,j<i→t.ns.getD j 0=s.ns.getD j 0)∧Below v.heap.size v wr) (fun iv _=>t.ns.length - (intOf iv).toNat)
 case atStart=>exact ⟨0,rfl,Nat.zero_le _,fun j hj=>by omega,Below.refl _ _⟩
 case round=>
  obtain ⟨i,rfl,hil,HE,hb⟩:=hrel;have hsz:=hb.size;have X2:=X.below hb (by omega);have Y2:=Y.below hb (by omega);have hbW:Below W.heap.size W wr:=kW.trans (hb.mono (by omega));have p0:=X2.cell 0 rfl;have q0:=Y2.cell 0 rfl;by_cases hlt:i<t.ns.length
  · obtain ⟨g1,o1,rfl,hg1,hc1⟩:=H1.out.1.ptr (by omega)
    obtain ⟨g2,o2,rfl,hg2,hc2⟩:=H2.out.1.ptr (by have:=HL1.out;omega);have E1:=(hbW.cell (p:=⟨g1,o1+i,none⟩) (HB.out g1 hg1)).trans (hc1 i hlt);have E2:=(hbW.cell (p:=⟨g2,o2+i,none⟩) (HB.out g2 hg2)).trans (hc2 i (by have:=HL1.out;omega));have hlt2:i<s.ns.length:=by have:=HL1.out;omega
    clear hc1 hc2;by_cases hpp:t.ns.getD i 0=s.ns.getD i 0
    · have HE2:Hid (∀ j,j<i+1→t.ns.getD j 0=s.ns.getD j 0):=by
       intro j hj;by_cases h:j=i
       · subst h;exact hpp
       · exact HE.out j (by omega)
      rw [← hpp] at E2;clear hpp;generalize t.ns.getD i 0=Z at *;have hd:(Z != Z)=false:=by simp
      go_wp2
      go_region
      all_goals
       go_wp2
       go_roundw
       case rel=>exact ⟨i+1,by go_num,by omega,HE2,(by first | exact hb | exact hb.trans ⟨rfl,rfl,rfl,Nat.le_refl _,fun _ _=>rfl⟩)⟩
       case measure=>simp [intOf];omega
    · have HPP:Hid (¬ t.ns.getD i 0=s.ns.getD i 0):=hpp
      have hd:(t.ns.getD i 0 != s.ns.getD i 0)=true:=by rw [bne_iff_ne];exact hpp
      clear hpp;generalize hZ:t.ns.getD i 0=Z at E1 hd;generalize hZ':s.ns.getD i 0=Z' at E2 hd;clear hZ hZ';go_wp2
      go_region
      all_goals
       go_wp2
       go_ret
       exact ⟨⟨false,rfl,⟨fun h=>(by cases h),fun h=>absurd (h.2.2.1 i hlt) HPP.out⟩⟩,(by first | exact hbW | exact hbW.trans ⟨rfl,rfl,rfl,Nat.le_refl _,fun _ _=>rfl⟩)⟩
  · have p1:=X2.cell 1 rfl
    have HNS:Hid (∀ j,j<t.ns.length→t.ns.getD j 0=s.ns.getD j 0):=fun j hj=>HE.out j (by omega);clear HE;go_wp2
    clear p0 q0 p1
    go_loopw [6] (fun iv wr2=>∃ i:Nat,iv=.int .i64 i∧i≤t.kids.length∧Hid (∀ j,j<i→eqRI (eqR f) (t.kids.getD j tr0) (s.kids.getD j tr0))∧Below wr.heap.size wr wr2) (fun iv _=>t.kids.length - (intOf iv).toNat)
    case atStart=>exact ⟨0,rfl,Nat.zero_le _,fun j hj=>by omega,Below.refl _ _⟩
    case round=>
     obtain ⟨i,rfl,hil2,HE,hb2⟩:=hrel;have hsz2:=hb2.size;have hbW2:=hbW.trans (hb2.mono (by have:=hbW.size;omega));have X3:=X2.below hb2 (by omega);have Y3:=Y2.below hb2 (by omega);have p1:=X3.cell 1 rfl;have q1:=Y3.cell 1 rfl;by_cases hlt2:i<t.kids.length
     · obtain ⟨g1,o1,rfl,hg1,hc1⟩:=H1.out.2.ptr (by omega)
       obtain ⟨g2,o2,rfl,hg2,hc2⟩:=H2.out.2.ptr (by have:=HL2.out;omega);obtain ⟨a1,c1,a2,c2,a3,c3,⟨e0,e1,e2,e3,e4,e5⟩,hp⟩:=hc1 i hlt2;obtain ⟨b1,d1,b2,d2,b3,d3,⟨f0,f1,f2,f3,f4,f5⟩,hr⟩:=hc2 i (by have:=HL2.out;omega);have E0:=(hbW2.cell (p:=⟨g1,o1+i*6,none⟩) (HB.out g1 hg1)).trans e0;have E1:=(hbW2.cell (p:=⟨g1,o1+i*6+1,none⟩) (HB.out g1 hg1)).trans e1;have E2:=(hbW2.cell (p:=⟨g1,o1+i*6+2,none⟩) (HB.out g1 hg1)).trans e2;have E3:=(hbW2.cell (p:=⟨g1,o1+i*6+3,none⟩) (HB.out g1 hg1)).trans e3;have E4:=(hbW2.cell (p:=⟨g1,o1+i*6+4,none⟩) (HB.out g1 hg1)).trans e4;have E5:=(hbW2.cell (p:=⟨g1,o1+i*6+5,none⟩) (HB.out g1 hg1)).trans e5;have F0:=(hbW2.cell (p:=⟨g2,o2+i*6,none⟩) (HB.out g2 hg2)).trans f0;have F1:=(hbW2.cell (p:=⟨g2,o2+i*6+1,none⟩) (HB.out g2 hg2)).trans f1;have F2:=(hbW2.cell (p:=⟨g2,o2+i*6+2,none⟩) (HB.out g2 hg2)).trans f2;have F3:=(hbW2.cell (p:=⟨g2,o2+i*6+3,none⟩) (HB.out g2 hg2)).trans f3;have F4:=(hbW2.cell (p:=⟨g2,o2+i*6+4,none⟩) (HB.out g2 hg2)).trans f4;have F5:=(hbW2.cell (p:=⟨g2,o2+i*6+5,none⟩) (HB.out g2 hg2)).trans f5;have HP:Hid (ItV (ArV f D wr) D wr a1 c1 a2 c2 a3 c3 (t.kids.getD i tr0)):=hp.agree (Agree.of hbW2 HB.out);have HR:Hid (ItV (ArV f D wr) D wr b1 d1 b2 d2 b3 d3 (s.kids.getD i tr0)):=hr.agree (Agree.of hbW2 HB.out);have HBr:Hid (∀ g,D g→g<wr.heap.size):=fun g h=>by have:=HB.out g h;have:=hbW2.size;omega
       have hlt3:i<s.kids.length:=by have:=HL2.out;omega
       clear hc1 hc2 hp hr e0 e1 e2 e3 e4 e5 f0 f1 f2 f3 f4 f5;obtain ⟨T,hT⟩:∃ T,t.kids.getD i tr0=T:=⟨_,rfl⟩;obtain ⟨S,hS'⟩:∃ T,s.kids.getD i tr0=T:=⟨_,rfl⟩;have HT:Hid (t.kids.getD i tr0=T):=hT;have HSS:Hid (s.kids.getD i tr0=S):=hS';rw [hT] at E0 E1 E2 E3 E4 E5 HP;rw [hS'] at F0 F1 F2 F3 F4 F5 HR;clear hT hS';go_wp2
       go_region_with (go_at_call 24;refine (sameItemRX HS.out (by first | exact HBr.out | (intro g hg;have:=HBr.out g hg;exact this)) (by first | exact HP.out | exact HP.out.agree (fun _ _=>rfl)) (by first | exact HR.out | exact HR.out.agree (fun _ _=>rfl))).mono ?_;rintro e w2 ⟨⟨β,rfl,hβ⟩,k2⟩)
       all_goals
        have k2':Below wr.heap.size wr w2:=by first | exact k2 | exact below_undrew k2
        cases β
        · go_wp2
          go_ret
          exact ⟨⟨false,rfl,⟨fun h=>(by cases h),fun h=>hβ.out.2 (by have:=h.2.2.2 i hlt2;rw [HT.out,HSS.out] at this;exact this)⟩⟩,hbW2.trans (k2'.mono hbW2.size)⟩
        · have HE2:Hid (∀ j,j<i+1→eqRI (eqR f) (t.kids.getD j tr0) (s.kids.getD j tr0)):=by
           intro j hj;by_cases h:j=i
           · subst h;rw [HT.out,HSS.out];exact hβ.out.1 rfl
           · exact HE.out j (by omega)
          go_wp2
          go_roundw
          case rel=>exact ⟨i+1,by go_num,by omega,HE2,hb2.trans (k2'.mono (by omega))⟩
          case measure=>simp [intOf];omega
     · go_wp2
       go_ret
       exact ⟨⟨true,rfl,⟨fun _=>⟨HL1.out,HL2.out,HNS.out,fun j hj=>HE.out j (by omega)⟩,fun _=>rfl⟩⟩,hbW2⟩
theorem sameRX_all:∀ f,SamX f
 | 0=>by intro D W x1 n1 y1 x2 n2 y2 z1 m1 u1 z2 m2 u2 t s hB h1 h2;exact h1.elim
 | f+1=>sameRX_step (sameRX_all f)
end Go.Proofs.YtmijanocljmaeaaGreat
