/- Rows of ints that can be read; the document's SameTexts of one row of texts. -/
import Derived.Test.YtimfnalpmmkndaaGreatDoorRS
import Derived.Test.YtimfnalpmmkndaaGreatDoorDA
import Derived.Test.YtimfnalpmmkndaaGreatDoorNE
import Derived.Test.YtimfnalpmmkndaaGreatDoorJ4
import Derived.Test.YtimfnalpmmkndaaGreatDoorTA
set_option maxRecDepth 100000
set_option maxHeartbeats 8000000
set_option linter.unusedVariables false
set_option linter.unusedSimpArgs false
namespace Go.Proofs.YtimfnalpmmkndaaGreatDoor
section
open Go.RowKit
def RdI (B:Nat) (w:World) (v:Value) (xs:List Int):Prop:=∃ a c,v=.slice a xs.length c∧xs.length≤c∧c≤9223372036854775807∧(xs=[]∨∃ g o,a=some ⟨g,o,none⟩∧g<B∧∀ j,j<xs.length→w.cell? ⟨g,o+j,none⟩=some (.int .i64 (xs.getD j 0)))
theorem RdI.nil (B:Nat) (w:World):RdI B w (.slice none 0 0) []:=⟨none,0,rfl,by simp,by omega,Or.inl rfl⟩
theorem RdI.below {B C:Nat} {w w':World} {v:Value} {xs:List Int} (h:RdI B w v xs) (k:Below C w w') (hC:B≤C):RdI B w' v xs:=by
 obtain ⟨a,c,h1,h2,h3,h4⟩:=h;refine ⟨a,c,h1,h2,h3,?_⟩;rcases h4 with h4 | ⟨g,o,h4,h5,h6⟩
 · exact Or.inl h4
 · exact Or.inr ⟨g,o,h4,h5,fun j hj=>by rw [k.cell (p:=⟨g,o+j,none⟩) (by show g<C;omega)];exact h6 j hj⟩
theorem RdI.mono {B C:Nat} {w:World} {v:Value} {xs:List Int} (h:RdI B w v xs) (hC:B≤C):RdI C w v xs:=by
 obtain ⟨a,c,h1,h2,h3,h4⟩:=h;refine ⟨a,c,h1,h2,h3,?_⟩;rcases h4 with h4 | ⟨g,o,h4,h5,h6⟩
 · exact Or.inl h4
 · exact Or.inr ⟨g,o,h4,by omega,h6⟩
theorem RdI.ptr {B:Nat} {w:World} {a:Option Addr} {n c:Nat} {xs:List Int} (h:RdI B w (.slice a n c) xs) (h0:0<xs.length):∃ g o,a=some ⟨g,o,none⟩∧g<B∧∀ j,j<xs.length→w.cell? ⟨g,o+j,none⟩=some (.int .i64 (xs.getD j 0)):=by
 obtain ⟨a',c',h1,h2,h3,h4⟩:=h;obtain ⟨rfl,_,_⟩:=Value.slice.inj h1;rcases h4 with h4 | h4
 · subst h4;simp at h0
 · exact h4
theorem RdI.cap {B:Nat} {w:World} {a:Option Addr} {n c:Nat} {xs:List Int} (h:RdI B w (.slice a n c) xs):xs.length≤c∧c≤9223372036854775807:=by
 obtain ⟨a',c',h1,h2,h3,_⟩:=h;obtain ⟨_,_,e3⟩:=Value.slice.inj h1;omega
theorem sameTexts_is {B B':Nat} {w:World} {a a':Option Addr} {c c':Nat} {ss:List ByteArray} (h1:RdS B w (.slice a ss.length c) ss) (h2:RdS B' w (.slice a' ss.length c') ss) :
    Calls Tryz.prog 81 #[.slice a ss.length c,.slice a' ss.length c'] w fun e w'=>e=.returned (.bool true)∧∃ q,w'=w.drewN q:=by
 have H1:Hid (RdS B w (.slice a ss.length c) ss):=h1;have H2:Hid (RdS B' w (.slice a' ss.length c') ss):=h2;obtain ⟨hc1,hc2⟩:=h1.cap;clear h1 h2;go_enter Tryz.func81,Tryz.ntmps81;go_wp2
 go_loopw [5] (fun s wr=>(∃ q,wr=w.drewN q)∧∃ j:Nat,j≤ss.length∧s=.int .i64 j) (fun s _=>ss.length - (intOf s).toNat)
 case atStart=>exact ⟨⟨0,rfl⟩,0,Nat.zero_le _,rfl⟩
 case round=>
  obtain ⟨⟨q,rfl⟩,j,hj,rfl⟩:=hrel;by_cases hlt:j<ss.length
  · obtain ⟨g,o,rfl,hg,hc⟩:=H1.out.ptr (by omega)
    obtain ⟨g',o',rfl,hg',hc'⟩:=H2.out.ptr (by omega);have q1:=hc j hlt;have q2:=hc' j hlt;generalize ss.getD j noT=p at *;clear hc hc';go_wp2
    go_quiet (fail)
    go_wp2
    go_roundw
    case rel=>exact ⟨⟨_,rfl⟩,j+1,by omega,by go_num⟩
    case measure=>simp [intOf];omega
  · go_wp2
    go_ret
    exact ⟨rfl,_,rfl⟩
end
section
open Go.RowKit
attribute [local go_sem] Oper.semAt_some
theorem sameFnB_is {B:Nat} {w:World} {nm rs lf rt:ByteArray} {lo lb ln:List ByteArray} {ats:List Int} {a1 b1 a2 b2 a3 b3 a4 b4:Option Addr} {c1 d1 c2 d2 c3 d3 c4 d4:Nat} {br:Bool} (h1:RdS B w (.slice a1 lo.length c1) lo) (g1:RdS B w (.slice b1 lo.length d1) lo) (h2:RdS B w (.slice a2 lb.length c2) lb) (g2:RdS B w (.slice b2 lb.length d2) lb) (h3:RdI B w (.slice a3 ats.length c3) ats) (g3:RdI B w (.slice b3 ats.length d3) ats) (h4:RdS B w (.slice a4 ln.length c4) ln) (g4:RdS B w (.slice b4 ln.length d4) ln) (hB:B≤w.heap.size) :
    Calls Tryz.prog 50 #[.agg (fnV nm rs lf rt (.slice a1 lo.length c1) (.slice a2 lb.length c2) (.slice a3 ats.length c3) (.slice a4 ln.length c4) br),.agg (fnV nm rs lf rt (.slice b1 lo.length d1) (.slice b2 lb.length d2) (.slice b3 ats.length d3) (.slice b4 ln.length d4) br)] w fun e w'=>e=.returned (.bool true)∧Below w.heap.size w w':=by
 have k0:=below_alloc w (.cells (fnV nm rs lf rt (.slice a1 lo.length c1) (.slice a2 lb.length c2) (.slice a3 ats.length c3) (.slice a4 ln.length c4) br) 36);have F0:=boxA_new w (fnV nm rs lf rt (.slice a1 lo.length c1) (.slice a2 lb.length c2) (.slice a3 ats.length c3) (.slice a4 ln.length c4) br) 36;generalize hW0:w.alloc (.cells (fnV nm rs lf rt (.slice a1 lo.length c1) (.slice a2 lb.length c2) (.slice a3 ats.length c3) (.slice a4 ln.length c4) br) 36)=w0 at *;have s0:w0.heap.size=w.heap.size+1:=by rw [← hW0];simp
 have k1:=below_alloc w0 (.cells (fnV nm rs lf rt (.slice b1 lo.length d1) (.slice b2 lb.length d2) (.slice b3 ats.length d3) (.slice b4 ln.length d4) br) 36);have G0:=boxA_new w0 (fnV nm rs lf rt (.slice b1 lo.length d1) (.slice b2 lb.length d2) (.slice b3 ats.length d3) (.slice b4 ln.length d4) br) 36;have F1:=F0.below k1 (by omega);generalize hW1:w0.alloc (.cells (fnV nm rs lf rt (.slice b1 lo.length d1) (.slice b2 lb.length d2) (.slice b3 ats.length d3) (.slice b4 ln.length d4) br) 36)=w1 at *;have s1:w1.heap.size=w.heap.size+2:=by rw [← hW1];simp;omega
 have kk:Below w.heap.size w w1:=k0.trans (k1.mono (by omega));have HC1:Hid (∀ W,Below w1.heap.size w1 W→Calls Tryz.prog 81 #[.slice a1 lo.length c1,.slice b1 lo.length d1] W _):=fun W kW=>sameTexts_is ((h1.below kk hB).below kW (by omega)) ((g1.below kk hB).below kW (by omega));have HC2:Hid (∀ W,Below w1.heap.size w1 W→Calls Tryz.prog 81 #[.slice a2 lb.length c2,.slice b2 lb.length d2] W _):=fun W kW=>sameTexts_is ((h2.below kk hB).below kW (by omega)) ((g2.below kk hB).below kW (by omega));have HC4:Hid (∀ W,Below w1.heap.size w1 W→Calls Tryz.prog 81 #[.slice a4 ln.length c4,.slice b4 ln.length d4] W _):=fun W kW=>sameTexts_is ((h4.below kk hB).below kW (by omega)) ((g4.below kk hB).below kW (by omega));have HA:Hid (∀ W,Below w1.heap.size w1 W→RdI B W (.slice a3 ats.length c3) ats):=fun W kW=>(h3.below kk hB).below kW (by omega);have HA':Hid (∀ W,Below w1.heap.size w1 W→RdI B W (.slice b3 ats.length d3) ats):=fun W kW=>(g3.below kk hB).below kW (by omega);obtain ⟨m1,m2⟩:=h3.cap;obtain ⟨n1,n2⟩:=g3.cap;clear h1 g1 h2 g2 h3 g3 h4 g4 k0 F0;have G1:=G0;rw [s0] at G1;clear G0 k1;have hcells:∀ {W:World},Below w1.heap.size w1 W→W.cell? ⟨w.heap.size,6,none⟩=some (.slice a3 ats.length c3)∧W.cell? ⟨w.heap.size+1,6,none⟩=some (.slice b3 ats.length d3):=fun kW=>⟨(F1.below kW (by omega)).cell 6 rfl,(G1.below kW (by omega)).cell 6 rfl⟩;have y0:=F1.cell 0 rfl;have y1:=F1.cell 1 rfl;have y2:=F1.cell 2 rfl;have y3:=F1.cell 3 rfl;have y6:=F1.cell 6 rfl;have y8:=F1.cell 8 rfl;have z0:=G1.cell 0 rfl;have z1:=G1.cell 1 rfl;have z2:=G1.cell 2 rfl;have z3:=G1.cell 3 rfl;have z6:=G1.cell 6 rfl;have z8:=G1.cell 8 rfl;go_enter Tryz.func50,Tryz.ntmps50;go_wp2
 clear y0 y1 y2 y3 y6 y8 z0 z1 z2 z3 z6 z8 hW0 hW1
 go_loopw [5] (fun s wr=>(∃ q,wr=w1.drewN q)∧∃ j:Nat,j≤ats.length∧s=.int .i64 j) (fun s _=>ats.length - (intOf s).toNat)
 case atStart=>exact ⟨⟨0,rfl⟩,0,Nat.zero_le _,rfl⟩
 case round=>
  obtain ⟨⟨q,rfl⟩,j,hj,rfl⟩:=hrel;have kq:Below w1.heap.size w1 (w1.drewN q):=below_drewN' (Below.refl _ _) q;obtain ⟨y6,z6⟩:=hcells (Below.refl w1.heap.size w1);by_cases hlt:j<ats.length
  · obtain ⟨g,o,rfl,hg,hc⟩:=(HA.out _ (Below.refl _ _)).ptr (by omega)
    obtain ⟨g',o',rfl,hg',hc'⟩:=(HA'.out _ (Below.refl _ _)).ptr (by omega);have q1:=hc j hlt;have q2:=hc' j hlt;generalize ats.getD j 0=p at *;clear hc hc';go_wp2
    go_quiet (fail)
    go_wp2
    go_roundw
    case rel=>exact ⟨⟨_,rfl⟩,j+1,by omega,by go_num⟩
    case measure=>simp [intOf];omega
  · obtain ⟨y6,z6⟩:=hcells kq
    have F2:=F1.below kq (by omega);have G2:=G1.below kq (by omega);generalize w1.drewN q=w2 at *;have y4:=F2.cell 4 rfl;have z4:=G2.cell 4 rfl
    go_wp2_with fail
    refine (HC1.out w2 kq).mono ?_;rintro e w3 ⟨rfl,q3,h3⟩;have k3:Below w1.heap.size w1 w3:=by rw [h3];exact below_drewN' kq q3
    have y5:=(F1.below k3 (by omega)).cell 5 rfl;have z5:=(G1.below k3 (by omega)).cell 5 rfl;clear h3 y4 z4 F2 G2 y6 z6
    go_wp2_with fail
    refine (HC2.out w3 k3).mono ?_;rintro e w4 ⟨rfl,q4,h4⟩;have k4:Below w1.heap.size w1 w4:=by rw [h4];exact below_drewN' k3 q4
    have y7:=(F1.below k4 (by omega)).cell 7 rfl;have z7:=(G1.below k4 (by omega)).cell 7 rfl;clear h4 y5 z5
    go_wp2_with fail
    refine (HC4.out w4 k4).mono ?_;rintro e w5 ⟨rfl,q5,h5⟩;have k5:Below w1.heap.size w1 w5:=by rw [h5];exact below_drewN' k4 q5
    have g5:Below w.heap.size w w5:=kk.trans (k5.mono (by omega));clear h5 y7 z7;go_wp2
    go_ret
    exact ⟨rfl,g5⟩
end
section
open Go.RowKit
attribute [local go_sem] Oper.semAt_some
theorem bound_any (x:BV) (w:World):Calls Tryz.prog 24 #[.agg #[.int .i64 x.k,.slice x.a1 x.n1 x.y1,.slice x.a2 x.n2 x.y2,.string x.s1,.string x.s2,.string x.s3,.string x.s4,.slice x.b1 x.m1 x.z1,.slice x.b2 x.m2 x.z2,.slice x.b3 x.m3 x.z3,.slice x.b4 x.m4 x.z4,.bool x.br,.int .i64 x.ln]] w fun e w'=>e=.returned (.agg #[.int .i64 x.k,.slice x.a1 x.n1 x.y1,.slice x.a2 x.n2 x.y2,.string x.s1,.string x.s2,.string x.s3,.string x.s4,.slice x.b1 x.m1 x.z1,.slice x.b2 x.m2 x.z2,.slice x.b3 x.m3 x.z3,.slice x.b4 x.m4 x.z4,.bool x.br,.int .i64 x.ln])∧Below w.heap.size w w':=by
 have e1:=below_alloc w (.cells #[.int .i64 x.k,.slice x.a1 x.n1 x.y1,.slice x.a2 x.n2 x.y2,.string x.s1,.string x.s2,.string x.s3,.string x.s4,.slice x.b1 x.m1 x.z1,.slice x.b2 x.m2 x.z2,.slice x.b3 x.m3 x.z3,.slice x.b4 x.m4 x.z4,.bool x.br,.int .i64 x.ln] 49);have B1:=boxA_new w #[.int .i64 x.k,.slice x.a1 x.n1 x.y1,.slice x.a2 x.n2 x.y2,.string x.s1,.string x.s2,.string x.s3,.string x.s4,.slice x.b1 x.m1 x.z1,.slice x.b2 x.m2 x.z2,.slice x.b3 x.m3 x.z3,.slice x.b4 x.m4 x.z4,.bool x.br,.int .i64 x.ln] 49;have k2:=below_alloc (w.alloc (.cells #[.int .i64 x.k,.slice x.a1 x.n1 x.y1,.slice x.a2 x.n2 x.y2,.string x.s1,.string x.s2,.string x.s3,.string x.s4,.slice x.b1 x.m1 x.z1,.slice x.b2 x.m2 x.z2,.slice x.b3 x.m3 x.z3,.slice x.b4 x.m4 x.z4,.bool x.br,.int .i64 x.ln] 49)) (.cells bnd0 53);have B2:=boxA_new (w.alloc (.cells #[.int .i64 x.k,.slice x.a1 x.n1 x.y1,.slice x.a2 x.n2 x.y2,.string x.s1,.string x.s2,.string x.s3,.string x.s4,.slice x.b1 x.m1 x.z1,.slice x.b2 x.m2 x.z2,.slice x.b3 x.m3 x.z3,.slice x.b4 x.m4 x.z4,.bool x.br,.int .i64 x.ln] 49)) bnd0 53;have B1':=B1.below k2 (by simp);have kw:Below w.heap.size w _:=e1.trans (k2.mono e1.size);rw [World.size_alloc] at B2;go_enter Tryz.func24,Tryz.ntmps24
 go_upto_region 1 with fail
 generalize hA:(w.alloc (.cells #[.int .i64 x.k,.slice x.a1 x.n1 x.y1,.slice x.a2 x.n2 x.y2,.string x.s1,.string x.s2,.string x.s3,.string x.s4,.slice x.b1 x.m1 x.z1,.slice x.b2 x.m2 x.z2,.slice x.b3 x.m3 x.z3,.slice x.b4 x.m4 x.z4,.bool x.br,.int .i64 x.ln] 49)).alloc (.cells bnd0 53)=v at *;clear hA e1 k2 B1;obtain ⟨c0,c1,c2,c3,c4,c5,c6,c7,c8,c9,c10,c11,c12⟩:=cells13 B1';obtain ⟨r0,r1,r2,r3,r4,r5,r6,r7,r8,r9,r10,r11,r12⟩:=cells13 B2;obtain ⟨f0,f1,f2,f3,f4,f5,f6,f7,f8,f9,f10,f11,f12⟩:=frozen13 B2;obtain ⟨wz,hwz,Z,KZ,_⟩:=put13 B2 kw (by omega) (.int .i64 x.k) (.slice x.a1 x.n1 x.y1) (.slice x.a2 x.n2 x.y2) (.string x.s1) (.string x.s2) (.string x.s3) (.string x.s4) (.slice x.b1 x.m1 x.z1) (.slice x.b2 x.m2 x.z2) (.slice x.b3 x.m3 x.z3) (.slice x.b4 x.m4 x.z4) (.bool x.br) (.int .i64 x.ln);dsimp only [ch13] at hwz;have HKZ:Hid (Below w.heap.size w wz):=KZ;clear KZ kw B1';go_wp2
 obtain ⟨e0,e1,e2,e3,e4,e5,e6,e7,e8,e9,e10,e11,e12⟩:=cells13 Z;refine bodyPost_ret (v:=.agg #[.int .i64 x.k,.slice x.a1 x.n1 x.y1,.slice x.a2 x.n2 x.y2,.string x.s1,.string x.s2,.string x.s3,.string x.s4,.slice x.b1 x.m1 x.z1,.slice x.b2 x.m2 x.z2,.slice x.b3 x.m3 x.z3,.slice x.b4 x.m4 x.z4,.bool x.br,.int .i64 x.ln]) ?_ rfl ⟨rfl,HKZ.out⟩;simp [results,Tryz.results24,go_sem,e0,e1,e2,e3,e4,e5,e6,e7,e8,e9,e10,e11,e12]
end
section
open Go.RowKit
theorem same_walk (b1 o1 c1 b2 o2 c2 n:Nat) (xs:List Int) (w:World) (hb:n≤9223372036854775807)
    (k1:∀ j,j<n→w.cell? ⟨b1,o1+j,none⟩=some (.int .u32 (xs.getD j 0)))
    (k2:∀ j,j<n→w.cell? ⟨b2,o2+j,none⟩=some (.int .u32 (xs.getD j 0))) :
    Calls Tryz.prog 154 #[.slice (some ⟨b1,o1,none⟩) n c1,.slice (some ⟨b2,o2,none⟩) n c2] w fun e w'=>e=.returned (.bool true)∧∃ q,w'=w.drewN q:=by
 have K1:Hid (∀ j,j<n→w.cell? ⟨b1,o1+j,none⟩=some (.int .u32 (xs.getD j 0))):=k1;have K2:Hid (∀ j,j<n→w.cell? ⟨b2,o2+j,none⟩=some (.int .u32 (xs.getD j 0))):=k2;clear k1 k2;go_enter Tryz.func154,Tryz.ntmps154;go_wp2
 go_loopw [5] (fun s wr=>(∃ q,wr=w.drewN q)∧∃ j:Nat,j≤n∧s=.int .i64 j) (fun s _=>n - (intOf s).toNat)
 case atStart=>exact ⟨⟨0,rfl⟩,0,Nat.zero_le _,rfl⟩
 case round=>
  obtain ⟨⟨q,rfl⟩,j,hj,rfl⟩:=hrel;by_cases hlt:j<n
  · have g1:=K1.out j hlt
    have g2:=K2.out j hlt;generalize xs.getD j 0=p at *;go_wp2
    go_quiet (fail)
    go_wp2
    go_roundw
    case rel=>exact ⟨⟨_,rfl⟩,j+1,by omega,by go_num⟩
    case measure=>simp [intOf];omega
  · go_wp2
    go_ret
    exact ⟨rfl,_,rfl⟩
theorem same_nil (a1 a2:Option Addr) (c1 c2:Nat) (w:World) :
    Calls Tryz.prog 154 #[.slice a1 0 c1,.slice a2 0 c2] w fun e w'=>e=.returned (.bool true)∧w=w':=by
 go_enter Tryz.func154,Tryz.ntmps154;go_wp2
 refine wp_loop_rounds 1 ?_;rw [rounds_succ];go_wp2
 go_ret
 exact ⟨rfl,rfl⟩
theorem same_rd {B B':Nat} {w:World} {v1 v2:Value} {xs:List Int} (h1:Rd B w v1 xs) (h2:Rd B' w v2 xs) :
    Calls Tryz.prog 154 #[v1,v2] w fun e w'=>e=.returned (.bool true)∧Below w.heap.size w w':=by
 obtain ⟨_,a1,c1,rfl,i1,j1,_,f1⟩:=h1;obtain ⟨_,a2,c2,rfl,i2,j2,_,f2⟩:=h2;by_cases h0:xs.length=0
 · rw [h0]
   refine (same_nil a1 a2 c1 c2 w).mono ?_;rintro e w' ⟨rfl,rfl⟩;exact ⟨rfl,Below.refl _ _⟩
 · rcases f1 with f1 | ⟨b1,o1,rfl,_,k1⟩
   · exact absurd f1 h0
   rcases f2 with f2 | ⟨b2,o2,rfl,_,k2⟩
   · exact absurd f2 h0
   refine (same_walk b1 o1 c1 b2 o2 c2 xs.length xs w (by omega) k1 k2).mono ?_;rintro e w' ⟨rfl,q,rfl⟩;exact ⟨rfl,below_drewN' (Below.refl _ _) q⟩
section
variable {w:World} {bx cy:Bool} {a1 a2 a3 a4:Option Addr} {c1 c2 c3 c4:Nat} {xn xd yn yd:List Int}
theorem nvar_in2 (h1:Rd w.heap.size w (.slice a1 xn.length c1) xn) (h2:Rd w.heap.size w (.slice a2 xd.length c2) xd) (h3:Rd w.heap.size w (.slice a3 yn.length c3) yn) (h4:Rd w.heap.size w (.slice a4 yd.length c4) yd) :
    NVar ((w.alloc (.cells #[.bool bx,.slice a1 xn.length c1,.slice a2 xd.length c2] 110)).alloc (.cells #[.bool cy,.slice a3 yn.length c3,.slice a4 yd.length c4] 110)) w.heap.size bx a1 xn c1 a2 xd c2 ∧
    NVar ((w.alloc (.cells #[.bool bx,.slice a1 xn.length c1,.slice a2 xd.length c2] 110)).alloc (.cells #[.bool cy,.slice a3 yn.length c3,.slice a4 yd.length c4] 110)) (w.heap.size+1) cy a3 yn c3 a4 yd c4 ∧
    Below w.heap.size w ((w.alloc (.cells #[.bool bx,.slice a1 xn.length c1,.slice a2 xd.length c2] 110)).alloc (.cells #[.bool cy,.slice a3 yn.length c3,.slice a4 yd.length c4] 110)):=by
 have b1:=below_alloc w (.cells #[.bool bx,.slice a1 xn.length c1,.slice a2 xd.length c2] 110);have X:=nvar_new (b:=bx) h1 h2;have Y:=nvar_new (b:=cy) ((h3.below b1).mono b1.size) ((h4.below b1).mono b1.size);rw [World.size_alloc] at Y;exact ⟨X.below (below_alloc _ _),Y,b1.alloc (by simp) _⟩
end
section
variable {w w':World} {k j:Nat} {b:Bool} {a1 a2 a3 a4:Option Addr} {ns ds:List Int} {c1 c2 c3 c4:Nat}
theorem same_rat (h1:Rd w.heap.size w (.slice a1 ns.length c1) ns) (h2:Rd w.heap.size w (.slice a2 ds.length c2) ds) (h3:Rd w.heap.size w (.slice a3 ns.length c3) ns) (h4:Rd w.heap.size w (.slice a4 ds.length c4) ds) :
    Calls Tryz.prog 115 #[.agg #[.bool b,.slice a1 ns.length c1,.slice a2 ds.length c2],.agg #[.bool b,.slice a3 ns.length c3,.slice a4 ds.length c4]] w fun e w'=>e=.returned (.bool true)∧Below w.heap.size w w':=by
 obtain ⟨X,Y,b0⟩:=nvar_in2 (bx:=b) (cy:=b) h1 h2 h3 h4;have x0:=X.k0;have x1:=X.k1;have x2:=X.k2;have y0:=Y.k0;have y1:=Y.k1;have y2:=Y.k2;have hbb:(b==b)=true:=by simp
 go_enter Tryz.func115,Tryz.ntmps115
 go_wp2_with fail
 clear x0 x1 x2 y0 y1 y2;generalize hA:(w.alloc (.cells #[.bool b,.slice a1 ns.length c1,.slice a2 ds.length c2] 110)).alloc (.cells #[.bool b,.slice a3 ns.length c3,.slice a4 ds.length c4] 110)=v at *;clear hA;refine (same_rd X.rn Y.rn).mono ?_;rintro e w1 ⟨rfl,k1⟩;replace X:=X.below k1;replace Y:=Y.below k1;have x2:=X.k2;have y2:=Y.k2
 go_wp2_with fail
 refine (same_rd X.rd Y.rd).mono ?_;rintro e w2 ⟨rfl,k2⟩;go_wp2
 go_ret
 exact ⟨rfl,b0.trans ((k1.mono b0.size).trans (k2.mono (Nat.le_trans b0.size k1.size)))⟩
end
end
section
open Go.RowKit
def SameOK (f:Nat):Prop:=∀ (D:Nat→Prop) (W:World) (x1:Option Addr) (n1 y1:Nat) (x2:Option Addr) (n2 y2:Nat) (z1:Option Addr) (m1 u1:Nat) (z2:Option Addr) (m2 u2:Nat) (t:Tr),(∀ g,D g→g<W.heap.size)→ArV f D W (.slice x1 n1 y1) (.slice x2 n2 y2) t→ArV f D W (.slice z1 m1 u1) (.slice z2 m2 u2) t →
 Calls Tryz.prog 49 #[.agg #[.slice x1 n1 y1,.slice x2 n2 y2],.agg #[.slice z1 m1 u1,.slice z2 m2 u2]] W fun e w'=>e=.returned (.bool true)∧Below W.heap.size W w'
section
variable {D:Nat→Prop} {f:Nat} {W:World} {a1 a2 a3 b1 b2 b3:Option Addr} {c1 c2 c3 d1 d2 d3:Nat} {t:Tr}
theorem sameItem_eq (hS:SameOK f) (hB:∀ g,D g→g<W.heap.size) (h1:ItV (ArV f D W) D W a1 c1 a2 c2 a3 c3 t) (h2:ItV (ArV f D W) D W b1 d1 b2 d2 b3 d3 t) :
    Calls Tryz.prog 80 #[.agg #[.int .u8 t.k,.bool t.b,.slice a1 t.ns.length c1,.slice a2 t.ds.length c2,.int .i32 t.c,.slice a3 t.kids.length c3],.agg #[.int .u8 t.k,.bool t.b,.slice b1 t.ns.length d1,.slice b2 t.ds.length d2,.int .i32 t.c,.slice b3 t.kids.length d3]] W fun e w'=>e=.returned (.bool true)∧Below W.heap.size W w':=by
 have HS:Hid (SameOK f):=hS;have H1:Hid (ItV (ArV f D W) D W a1 c1 a2 c2 a3 c3 t):=h1;have H2:Hid (ItV (ArV f D W) D W b1 d1 b2 d2 b3 d3 t):=h2;clear hS h1 h2;have k1:=below_alloc W (.cells #[.int .u8 t.k,.bool t.b,.slice a1 t.ns.length c1,.slice a2 t.ds.length c2,.int .i32 t.c,.slice a3 t.kids.length c3] 113);have k2:=below_alloc (W.alloc (.cells #[.int .u8 t.k,.bool t.b,.slice a1 t.ns.length c1,.slice a2 t.ds.length c2,.int .i32 t.c,.slice a3 t.kids.length c3] 113)) (.cells #[.int .u8 t.k,.bool t.b,.slice b1 t.ns.length d1,.slice b2 t.ds.length d2,.int .i32 t.c,.slice b3 t.kids.length d3] 113);have X:=(boxA_new W #[.int .u8 t.k,.bool t.b,.slice a1 t.ns.length c1,.slice a2 t.ds.length c2,.int .i32 t.c,.slice a3 t.kids.length c3] 113).below k2 (by simp);have Y:=boxA_new (W.alloc (.cells #[.int .u8 t.k,.bool t.b,.slice a1 t.ns.length c1,.slice a2 t.ds.length c2,.int .i32 t.c,.slice a3 t.kids.length c3] 113)) #[.int .u8 t.k,.bool t.b,.slice b1 t.ns.length d1,.slice b2 t.ds.length d2,.int .i32 t.c,.slice b3 t.kids.length d3] 113;rw [World.size_alloc] at Y;have sW:((W.alloc (.cells #[.int .u8 t.k,.bool t.b,.slice a1 t.ns.length c1,.slice a2 t.ds.length c2,.int .i32 t.c,.slice a3 t.kids.length c3] 113)).alloc (.cells #[.int .u8 t.k,.bool t.b,.slice b1 t.ns.length d1,.slice b2 t.ds.length d2,.int .i32 t.c,.slice b3 t.kids.length d3] 113)).heap.size=W.heap.size+2:=by simp
 have kW:Below W.heap.size W _:=k1.trans (k2.mono (by simp));clear k1 k2;have e0:(t.k != t.k)=false:=by simp
 have e1:(t.c != t.c)=false:=by simp
 have e2:((t.kids.length:Int) != (t.kids.length:Int))=false:=by simp
 have x0:=X.cell 0 rfl;have x1:=X.cell 1 rfl;have x2:=X.cell 2 rfl;have x3:=X.cell 3 rfl;have x4:=X.cell 4 rfl;have x5:=X.cell 5 rfl;have y0:=Y.cell 0 rfl;have y1:=Y.cell 1 rfl;have y2:=Y.cell 2 rfl;have y3:=Y.cell 3 rfl;have y4:=Y.cell 4 rfl;have y5:=Y.cell 5 rfl;go_enter Tryz.func80,Tryz.ntmps80
 go_wp2_with fail
 clear x0 x1 x2 x3 x4 x5 y0 y1 y2 y3 y4 y5;generalize hA:(W.alloc (.cells #[.int .u8 t.k,.bool t.b,.slice a1 t.ns.length c1,.slice a2 t.ds.length c2,.int .i32 t.c,.slice a3 t.kids.length c3] 113)).alloc (.cells #[.int .u8 t.k,.bool t.b,.slice b1 t.ns.length d1,.slice b2 t.ds.length d2,.int .i32 t.c,.slice b3 t.kids.length d3] 113)=v at *;clear hA;have kA:Agree D W v:=Agree.of kW hB;have hD:∀ g,D g→g<v.heap.size:=fun g h=>by have:=hB g h;omega
 have HB:Hid (∀ g,D g→g<W.heap.size):=hB;refine (same_rat ((H1.out.rn.imp (fun _ h=>h) kA).rd hD) ((H1.out.rd.imp (fun _ h=>h) kA).rd hD) ((H2.out.rn.imp (fun _ h=>h) kA).rd hD) ((H2.out.rd.imp (fun _ h=>h) kA).rd hD)).mono ?_;clear hB hD kA;rintro e w1 ⟨rfl,k1⟩;have s1:=k1.size;have X1:=X.below k1 (by omega);have Y1:=Y.below k1 (by omega);have x5:=X1.cell 5 rfl;have y5:=Y1.cell 5 rfl;go_wp2
 clear x5 y5;have kW1:Below W.heap.size W w1:=kW.trans (k1.mono (by omega))
 go_loopw [5] (fun iv wr=>∃ i:Nat,iv=.int .i64 i∧i≤t.kids.length∧Below w1.heap.size w1 wr) (fun iv _=>t.kids.length - (intOf iv).toNat)
 case atStart=>exact ⟨0,rfl,Nat.zero_le _,Below.refl _ _⟩
 case round=>
  obtain ⟨i,rfl,hil,hb⟩:=hrel;have hsz:=hb.size;have X2:=X1.below hb (by omega);have Y2:=Y1.below hb (by omega);have x5:=X2.cell 5 rfl;have y5:=Y2.cell 5 rfl;have hbW:Below W.heap.size W wr:=kW1.trans (hb.mono (by omega));have bd1:=H1.out.bx.bounds;have bd2:=H2.out.bx.bounds;by_cases hlt:i<t.kids.length
  · obtain ⟨g1,o1,rfl,hg1,hc1⟩:=H1.out.bx.ptr (by omega)
    obtain ⟨g2,o2,rfl,hg2,hc2⟩:=H2.out.bx.ptr (by omega);obtain ⟨p1,m1,q1,p2,m2,q2,e1,e2,hp⟩:=hc1 i hlt;obtain ⟨r1,l1,s1,r2,l2,s2,f1,f2,hr⟩:=hc2 i hlt;have E1:=(hbW.cell (p:=⟨g1,o1+i*2,none⟩) (HB.out g1 hg1)).trans e1;have E2:=(hbW.cell (p:=⟨g1,o1+i*2+1,none⟩) (HB.out g1 hg1)).trans e2;have F1:=(hbW.cell (p:=⟨g2,o2+i*2,none⟩) (HB.out g2 hg2)).trans f1;have F2:=(hbW.cell (p:=⟨g2,o2+i*2+1,none⟩) (HB.out g2 hg2)).trans f2;have HP:Hid (ArV f D wr (.slice p1 m1 q1) (.slice p2 m2 q2) (t.kids.getD i tr0)):=hp.agree (Agree.of hbW HB.out);have HR:Hid (ArV f D wr (.slice r1 l1 s1) (.slice r2 l2 s2) (t.kids.getD i tr0)):=hr.agree (Agree.of hbW HB.out);have HBr:Hid (∀ g,D g→g<wr.heap.size):=fun g h=>by have:=HB.out g h;have:=hbW.size;omega
    clear hc1 hc2 hp hr e1 e2 f1 f2
    go_wp2_with fail
    go_region_with (go_at_call 49;refine (HS.out D _ _ _ _ _ _ _ _ _ _ _ _ _ (t.kids.getD i tr0) (by first | exact HBr.out | (intro g hg;have:=HBr.out g hg;exact this)) (by first | exact HP.out | exact HP.out.agree (fun _ _=>rfl)) (by first | exact HR.out | exact HR.out.agree (fun _ _=>rfl))).mono ?_;rintro e w2 ⟨rfl,k2⟩)
    all_goals
     have k2':Below wr.heap.size wr w2:=by first | exact k2 | exact below_undrew k2
     go_wp2
     go_roundw
     case rel=>exact ⟨i+1,by go_num,by omega,hb.trans (k2'.mono (by omega))⟩
     case measure=>simp [intOf];omega
  · go_wp2
    go_ret
    exact ⟨rfl,hbW⟩
end
theorem same_step {f:Nat} (hS:SameOK f):SameOK (f+1):=by
 intro D W x1 n1 y1 x2 n2 y2 z1 m1 u1 z2 m2 u2 t hB h1 h2;obtain rfl:=h1.1.len;obtain rfl:=h2.1.len;obtain rfl:=h1.2.len;obtain rfl:=h2.2.len;have HS:Hid (SameOK f):=hS;have H1:Hid (ArV (f+1) D W (.slice x1 t.ns.length y1) (.slice x2 t.kids.length y2) t):=h1;have H2:Hid (ArV (f+1) D W (.slice z1 t.ns.length u1) (.slice z2 t.kids.length u2) t):=h2;have bd1:=h1.1.bounds;have bd2:=h2.1.bounds;have bd3:=h1.2.bounds;have bd4:=h2.2.bounds;have HB:Hid (∀ g,D g→g<W.heap.size):=hB;clear hS h1 h2 hB;have k1:=below_alloc W (.cells #[.slice x1 t.ns.length y1,.slice x2 t.kids.length y2] 29);have k2:=below_alloc (W.alloc (.cells #[.slice x1 t.ns.length y1,.slice x2 t.kids.length y2] 29)) (.cells #[.slice z1 t.ns.length u1,.slice z2 t.kids.length u2] 29);have X:=(boxA_new W #[.slice x1 t.ns.length y1,.slice x2 t.kids.length y2] 29).below k2 (by simp);have Y:=boxA_new (W.alloc (.cells #[.slice x1 t.ns.length y1,.slice x2 t.kids.length y2] 29)) #[.slice z1 t.ns.length u1,.slice z2 t.kids.length u2] 29;rw [World.size_alloc] at Y;have sW:((W.alloc (.cells #[.slice x1 t.ns.length y1,.slice x2 t.kids.length y2] 29)).alloc (.cells #[.slice z1 t.ns.length u1,.slice z2 t.kids.length u2] 29)).heap.size=W.heap.size+2:=by simp
 have kW:Below W.heap.size W _:=k1.trans (k2.mono (by simp));clear k1 k2;have e0:((t.ns.length:Int) != (t.ns.length:Int))=false:=by simp
 have e2:((t.kids.length:Int) != (t.kids.length:Int))=false:=by simp
 have p0:=X.cell 0 rfl;have p1:=X.cell 1 rfl;have q0:=Y.cell 0 rfl;have q1:=Y.cell 1 rfl;go_enter Tryz.func49,Tryz.ntmps49;go_wp2
 clear p0 p1 q0 q1;generalize hA:(W.alloc (.cells #[.slice x1 t.ns.length y1,.slice x2 t.kids.length y2] 29)).alloc (.cells #[.slice z1 t.ns.length u1,.slice z2 t.kids.length u2] 29)=v at *;clear hA
 go_loopw [5] (fun iv wr=>∃ i:Nat,iv=.int .i64 i∧i≤t.ns.length∧Below v.heap.size v wr) (fun iv _=>t.ns.length - (intOf iv).toNat)
 case atStart=>exact ⟨0,rfl,Nat.zero_le _,Below.refl _ _⟩
 case round=>
  obtain ⟨i,rfl,hil,hb⟩:=hrel;have hsz:=hb.size;have X2:=X.below hb (by omega);have Y2:=Y.below hb (by omega);have hbW:Below W.heap.size W wr:=kW.trans (hb.mono (by omega));have p0:=X2.cell 0 rfl;have q0:=Y2.cell 0 rfl;by_cases hlt:i<t.ns.length
  · obtain ⟨g1,o1,rfl,hg1,hc1⟩:=H1.out.1.ptr (by omega)
    obtain ⟨g2,o2,rfl,hg2,hc2⟩:=H2.out.1.ptr (by omega);have E1:=(hbW.cell (p:=⟨g1,o1+i,none⟩) (HB.out g1 hg1)).trans (hc1 i hlt);have E2:=(hbW.cell (p:=⟨g2,o2+i,none⟩) (HB.out g2 hg2)).trans (hc2 i hlt);clear hc1 hc2;generalize t.ns.getD i 0=Z at *;have hd:(Z != Z)=false:=by simp
    go_wp2
    go_region
    all_goals
     go_wp2
     go_roundw
     case rel=>exact ⟨i+1,by go_num,by omega,(by first | exact hb | exact hb.trans ⟨rfl,rfl,rfl,Nat.le_refl _,fun _ _=>rfl⟩)⟩
     case measure=>simp [intOf];omega
  · have p1:=X2.cell 1 rfl
    go_wp2
    clear p0 q0 p1
    go_loopw [6] (fun iv wr2=>∃ i:Nat,iv=.int .i64 i∧i≤t.kids.length∧Below wr.heap.size wr wr2) (fun iv _=>t.kids.length - (intOf iv).toNat)
    case atStart=>exact ⟨0,rfl,Nat.zero_le _,Below.refl _ _⟩
    case round=>
     obtain ⟨i,rfl,hil2,hb2⟩:=hrel;have hsz2:=hb2.size;have hbW2:=hbW.trans (hb2.mono (by have:=hbW.size;omega));have X3:=X2.below hb2 (by omega);have Y3:=Y2.below hb2 (by omega);have p1:=X3.cell 1 rfl;have q1:=Y3.cell 1 rfl;by_cases hlt2:i<t.kids.length
     · obtain ⟨g1,o1,rfl,hg1,hc1⟩:=H1.out.2.ptr (by omega)
       obtain ⟨g2,o2,rfl,hg2,hc2⟩:=H2.out.2.ptr (by omega);obtain ⟨a1,c1,a2,c2,a3,c3,⟨e0,e1,e2,e3,e4,e5⟩,hp⟩:=hc1 i hlt2;obtain ⟨b1,d1,b2,d2,b3,d3,⟨f0,f1,f2,f3,f4,f5⟩,hr⟩:=hc2 i hlt2;have E0:=(hbW2.cell (p:=⟨g1,o1+i*6,none⟩) (HB.out g1 hg1)).trans e0;have E1:=(hbW2.cell (p:=⟨g1,o1+i*6+1,none⟩) (HB.out g1 hg1)).trans e1;have E2:=(hbW2.cell (p:=⟨g1,o1+i*6+2,none⟩) (HB.out g1 hg1)).trans e2;have E3:=(hbW2.cell (p:=⟨g1,o1+i*6+3,none⟩) (HB.out g1 hg1)).trans e3;have E4:=(hbW2.cell (p:=⟨g1,o1+i*6+4,none⟩) (HB.out g1 hg1)).trans e4;have E5:=(hbW2.cell (p:=⟨g1,o1+i*6+5,none⟩) (HB.out g1 hg1)).trans e5;have F0:=(hbW2.cell (p:=⟨g2,o2+i*6,none⟩) (HB.out g2 hg2)).trans f0;have F1:=(hbW2.cell (p:=⟨g2,o2+i*6+1,none⟩) (HB.out g2 hg2)).trans f1;have F2:=(hbW2.cell (p:=⟨g2,o2+i*6+2,none⟩) (HB.out g2 hg2)).trans f2;have F3:=(hbW2.cell (p:=⟨g2,o2+i*6+3,none⟩) (HB.out g2 hg2)).trans f3;have F4:=(hbW2.cell (p:=⟨g2,o2+i*6+4,none⟩) (HB.out g2 hg2)).trans f4;have F5:=(hbW2.cell (p:=⟨g2,o2+i*6+5,none⟩) (HB.out g2 hg2)).trans f5;have HP:Hid (ItV (ArV f D wr) D wr a1 c1 a2 c2 a3 c3 (t.kids.getD i tr0)):=hp.agree (Agree.of hbW2 HB.out);have HR:Hid (ItV (ArV f D wr) D wr b1 d1 b2 d2 b3 d3 (t.kids.getD i tr0)):=hr.agree (Agree.of hbW2 HB.out);have HBr:Hid (∀ g,D g→g<wr.heap.size):=fun g h=>by have:=HB.out g h;have:=hbW2.size;omega
       clear hc1 hc2 hp hr e0 e1 e2 e3 e4 e5 f0 f1 f2 f3 f4 f5;generalize t.kids.getD i tr0=T at *;go_wp2
       go_region_with (go_at_call 80;refine (sameItem_eq HS.out (by first | exact HBr.out | (intro g hg;have:=HBr.out g hg;exact this)) (by first | exact HP.out | exact HP.out.agree (fun _ _=>rfl)) (by first | exact HR.out | exact HR.out.agree (fun _ _=>rfl))).mono ?_;rintro e w2 ⟨rfl,k2⟩)
       all_goals
        have k2':Below wr.heap.size wr w2:=by first | exact k2 | exact below_undrew k2
        go_wp2
        go_roundw
        case rel=>exact ⟨i+1,by go_num,by omega,hb2.trans (k2'.mono (by omega))⟩
        case measure=>simp [intOf];omega
     · go_wp2
       go_ret
       exact ⟨rfl,hbW2⟩
theorem same_all:∀ f,SameOK f
 | 0=>by intro D W x1 n1 y1 x2 n2 y2 z1 m1 u1 z2 m2 u2 t hB h1 h2;exact h1.elim
 | f+1=>same_step (same_all f)
end
section
open Go.RowKit
attribute [local go_sem] Oper.semAt_some
theorem RdN.rdI {D:Nat→Prop} {B:Nat} {w:World} {v:Value} {xs:List Int} (h:RdN D w v xs) (hD:∀ g,D g→g<B):RdI B w v xs:=by
 obtain ⟨_,a,c,rfl,h1,h2,h3,h4⟩:=h;refine ⟨a,c,rfl,h1,h2,?_⟩;rcases h4 with h4 | ⟨g,o,rfl,h5,h6⟩
 · exact Or.inl (List.eq_nil_of_length_eq_zero h4)
 · exact Or.inr ⟨g,o,rfl,hD g h5,h6⟩
theorem refSame11_is {f:Nat} {D:Nat→Prop} {w:World} {x y:BV} {b:Bd} (hx:BndIs f D w x b) (hy:BndIs f D w y b) (hD:∀ g,D g→g<w.heap.size) :
    Calls Tryz.prog 23 #[.agg x.cells,.agg y.cells] w fun e w'=>e=.returned (.bool true)∧Below w.heap.size w w':=by
 obtain ⟨⟨x1,y1,x2,y2,p1,z1,p2,z2,p3,z3,p4,z4,rfl,hA,hL⟩,_⟩:=hx;obtain ⟨⟨u1,v1,u2,v2,q1,t1,q2,t2,q3,t3,q4,t4,rfl,hA',hL'⟩,_⟩:=hy;change Calls Tryz.prog 23 #[.agg #[.int .i64 b.k,.slice x1 b.t.ns.length y1,.slice x2 b.t.kids.length y2,.string b.s1,.string b.s2,.string b.s3,.string b.s4,.slice p1 b.l1.length z1,.slice p2 b.l2.length z2,.slice p3 b.l3.length z3,.slice p4 b.l4.length z4,.bool b.br,.int .i64 b.ln],.agg #[.int .i64 b.k,.slice u1 b.t.ns.length v1,.slice u2 b.t.kids.length v2,.string b.s1,.string b.s2,.string b.s3,.string b.s4,.slice q1 b.l1.length t1,.slice q2 b.l2.length t2,.slice q3 b.l3.length t3,.slice q4 b.l4.length t4,.bool b.br,.int .i64 b.ln]] w fun e w'=>e=.returned (.bool true)∧Below w.heap.size w w';have e1:=below_alloc w (.cells #[.int .i64 b.k,.slice x1 b.t.ns.length y1,.slice x2 b.t.kids.length y2,.string b.s1,.string b.s2,.string b.s3,.string b.s4,.slice p1 b.l1.length z1,.slice p2 b.l2.length z2,.slice p3 b.l3.length z3,.slice p4 b.l4.length z4,.bool b.br,.int .i64 b.ln] 53);have B1:=boxA_new w #[.int .i64 b.k,.slice x1 b.t.ns.length y1,.slice x2 b.t.kids.length y2,.string b.s1,.string b.s2,.string b.s3,.string b.s4,.slice p1 b.l1.length z1,.slice p2 b.l2.length z2,.slice p3 b.l3.length z3,.slice p4 b.l4.length z4,.bool b.br,.int .i64 b.ln] 53;have e2:=below_alloc (w.alloc (.cells #[.int .i64 b.k,.slice x1 b.t.ns.length y1,.slice x2 b.t.kids.length y2,.string b.s1,.string b.s2,.string b.s3,.string b.s4,.slice p1 b.l1.length z1,.slice p2 b.l2.length z2,.slice p3 b.l3.length z3,.slice p4 b.l4.length z4,.bool b.br,.int .i64 b.ln] 53)) (.cells #[.int .i64 b.k,.slice u1 b.t.ns.length v1,.slice u2 b.t.kids.length v2,.string b.s1,.string b.s2,.string b.s3,.string b.s4,.slice q1 b.l1.length t1,.slice q2 b.l2.length t2,.slice q3 b.l3.length t3,.slice q4 b.l4.length t4,.bool b.br,.int .i64 b.ln] 53);have B2:=boxA_new (w.alloc (.cells #[.int .i64 b.k,.slice x1 b.t.ns.length y1,.slice x2 b.t.kids.length y2,.string b.s1,.string b.s2,.string b.s3,.string b.s4,.slice p1 b.l1.length z1,.slice p2 b.l2.length z2,.slice p3 b.l3.length z3,.slice p4 b.l4.length z4,.bool b.br,.int .i64 b.ln] 53)) #[.int .i64 b.k,.slice u1 b.t.ns.length v1,.slice u2 b.t.kids.length v2,.string b.s1,.string b.s2,.string b.s3,.string b.s4,.slice q1 b.l1.length t1,.slice q2 b.l2.length t2,.slice q3 b.l3.length t3,.slice q4 b.l4.length t4,.bool b.br,.int .i64 b.ln] 53;have B1':=B1.below e2 (by simp);rw [World.size_alloc] at B2;have kw:Below w.heap.size w _:=e1.trans (e2.mono e1.size);have b1:(b.k==b.k)=true:=by simp
 have b2:(b.ln==b.ln)=true:=by simp
 have HF:Hid (∀ V,Below w.heap.size w V→(∀ g,D g→g<V.heap.size)∧Agree D w V):=fun V hV=>⟨fun g hg=>by have:=hD g hg;have:=hV.size;omega,fun g hg=>hV.block g (hD g hg)⟩;have HA:Hid (ArV (f+1) D w (.slice x1 b.t.ns.length y1) (.slice x2 b.t.kids.length y2) b.t∧ArV (f+1) D w (.slice u1 b.t.ns.length v1) (.slice u2 b.t.kids.length v2) b.t):=⟨hA,hA'⟩;have HL:Hid (Lists4 D w p1 p2 p3 p4 z1 z2 z3 z4 b.l1 b.l2 b.l3 b.l4∧Lists4 D w q1 q2 q3 q4 t1 t2 t3 t4 b.l1 b.l2 b.l3 b.l4):=⟨hL,hL'⟩;clear hA hA' hL hL' hD;go_enter Tryz.func23,Tryz.ntmps23
 go_upto_region 1 with fail
 generalize hV:(w.alloc (.cells #[.int .i64 b.k,.slice x1 b.t.ns.length y1,.slice x2 b.t.kids.length y2,.string b.s1,.string b.s2,.string b.s3,.string b.s4,.slice p1 b.l1.length z1,.slice p2 b.l2.length z2,.slice p3 b.l3.length z3,.slice p4 b.l4.length z4,.bool b.br,.int .i64 b.ln] 53)).alloc (.cells #[.int .i64 b.k,.slice u1 b.t.ns.length v1,.slice u2 b.t.kids.length v2,.string b.s1,.string b.s2,.string b.s3,.string b.s4,.slice q1 b.l1.length t1,.slice q2 b.l2.length t2,.slice q3 b.l3.length t3,.slice q4 b.l4.length t4,.bool b.br,.int .i64 b.ln] 53)=v at *;clear hV e1 e2 B1;obtain ⟨c0,c1,c2,c3,c4,c5,c6,c7,c8,c9,c10,c11,c12⟩:=cells13 B1';obtain ⟨d0,d1,d2,d3,d4,d5,d6,d7,d8,d9,d10,d11,d12⟩:=cells13 B2;have hs:=same_all (f+1) D v _ _ _ _ _ _ _ _ _ _ _ _ b.t (HF.out v kw).1 (HA.out.1.agree (HF.out v kw).2) (HA.out.2.agree (HF.out v kw).2)
 go_wp2_with fail
 refine hs.mono ?_;rintro e w2 ⟨rfl,k2⟩;have K2:Below w.heap.size w w2:=kw.trans (k2.mono kw.size);obtain ⟨C0,C1,C2,C3,C4,C5,C6,C7,C8,C9,C10,C11,C12⟩:=cells13 (B1'.below k2 B1'.lt);obtain ⟨D0,D1,D2,D3,D4,D5,D6,D7,D8,D9,D10,D11,D12⟩:=cells13 (B2.below k2 B2.lt);have L1:=HL.out.1.imp (fun _ h=>h) (HF.out w2 K2).2;have L2:=HL.out.2.imp (fun _ h=>h) (HF.out w2 K2).2;have hb:=(HF.out w2 K2).1;have HS:Hid (Calls Tryz.prog 50 #[.agg #[.string b.s1,.string b.s2,.string b.s3,.string b.s4,.slice p1 b.l1.length z1,.slice p2 b.l2.length z2,.slice p3 b.l3.length z3,.slice p4 b.l4.length z4,.bool b.br],.agg #[.string b.s1,.string b.s2,.string b.s3,.string b.s4,.slice q1 b.l1.length t1,.slice q2 b.l2.length t2,.slice q3 b.l3.length t3,.slice q4 b.l4.length t4,.bool b.br]] w2 fun e w'=>e=.returned (.bool true)∧Below w2.heap.size w2 w'):=sameFnB_is (B:=w2.heap.size) (L1.1.rd hb) (L2.1.rd hb) (L1.2.1.rd hb) (L2.2.1.rd hb) (L1.2.2.1.rdI hb) (L2.2.2.1.rdI hb) (L1.2.2.2.rd hb) (L2.2.2.2.rd hb) (Nat.le_refl _);clear L1 L2 hb hs c0 c1 c2 c3 c4 c5 c6 c7 c8 c9 c10 c11 c12 d0 d1 d2 d3 d4 d5 d6 d7 d8 d9 d10 d11 d12
 go_wp2_with fail
 refine HS.out.mono ?_;rintro e w3 ⟨rfl,k3⟩;have K3:Below w.heap.size w w3:=K2.trans (k3.mono K2.size);clear C0 C1 C2 C3 C4 C5 C6 C7 C8 C9 C10 C11 C12 D0 D1 D2 D3 D4 D5 D6 D7 D8 D9 D10 D11 D12;go_wp2
 go_ret
 exact ⟨rfl,K3⟩
end
end Go.Proofs.YtimfnalpmmkndaaGreatDoor
