/- The law's walk: NamesApart. -/
import Derived.Test.YtimfnalpmmkndaaGreatDoorRZ
import Derived.Test.YtimfnalpmmkndaaGreatDoorNH
import Derived.Test.YtimfnalpmmkndaaGreatDoorUP
import Derived.Test.YtimfnalpmmkndaaGreatDoorSB
set_option maxRecDepth 100000
set_option maxHeartbeats 16000000
set_option linter.unusedVariables false
set_option linter.unusedSimpArgs false
namespace Go.Proofs.YtimfnalpmmkndaaGreatDoor
section
open Go.RowKit
attribute [local go_sem] Oper.semAt_some
theorem KpM.lowA {f:Nat} {M:Nat→Prop} {w w':World} {tb:Nat} {T:List FrB} (h:TabIs f M w tb T) (k:KpM M w w'):Below tb w w':=k.below (fun g hg=>(h.lowR.2 g hg).1) (Nat.le_of_lt h.lowR.1)
def SAp (bx bz:Nat) (y z:BV) (V:World):Prop:=BoxA V bx 49 y.cells∧BoxA V bz 49 z.cells
theorem namesApart_any {f:Nat} {w:World} {a:Option Addr} {c:Nat} {L:List Dd} {x1 x2:Option Addr} {y1 y2:Nat} {t:Tr} (s o:ByteArray) (hL0:Deeds f (· < w.heap.size) w (.slice a L.length c) L) (hA0:ArV (f+1) (· < w.heap.size) w (.slice x1 t.ns.length y1) (.slice x2 t.kids.length y2) t) (ho:o.size≤9223372036854775807) (hU0:Lib.Utf8Tabs 0 1 w) :
    Calls Tryz.prog 5 #[.slice a L.length c,.agg #[.string s,.string o],.agg #[.slice x1 t.ns.length y1,.slice x2 t.kids.length y2]] w fun e w'=>e=.returned (.bool true)∧Below w.heap.size w w':=by
 obtain ⟨ne,hne⟩:=tellsErr_ex;have k1:=below_alloc w (.cells #[.string s,.string o] 56);have X1:=boxA_new w #[.string s,.string o] 56;have k2:=below_alloc (w.alloc (.cells #[.string s,.string o] 56)) (.cells #[.slice x1 t.ns.length y1,.slice x2 t.kids.length y2] 29);have X2:=boxA_new (w.alloc (.cells #[.string s,.string o] 56)) #[.slice x1 t.ns.length y1,.slice x2 t.kids.length y2] 29;have X1':=X1.below k2 (by simp);rw [World.size_alloc] at X2;have kk:Below w.heap.size w _:=k1.trans (k2.mono k1.size);go_enter Tryz.func5,Tryz.ntmps5
 go_upto_region 1 with fail
 generalize hW1:(w.alloc (.cells #[.string s,.string o] 56)).alloc (.cells #[.slice x1 t.ns.length y1,.slice x2 t.kids.length y2] 29)=w0 at *;clear hW1 k1 k2 X1;have q0:=X1'.cell 0 rfl;have q1:=X1'.cell 1 rfl;clear X1'
 go_cut [7,8] from 16 to 20 (fun p7 p8 wx=>p7=.string s∧p8=.string o∧Below w0.heap.size w0 wx)
 case first=>
  go_region
  all_goals
   go_wp2_with fail
   go_meet
   exact ⟨rfl,rfl,⟨rfl,rfl,rfl,Nat.le_refl _,fun _ _=>rfl⟩⟩
 case rest=>
 obtain ⟨rfl,rfl,kc⟩:=hcut;obtain ⟨w1,hw1⟩:∃ w1,wc=w1:=⟨_,rfl⟩;rw [hw1] at kc ⊢;clear hw1 q0 q1;have K01:Below w.heap.size w w1:=kk.trans (kc.mono kk.size);have hX2:=X2.below kc X2.lt;have HX:Hid (BoxA w1 (w.heap.size+1) 29 #[.slice x1 t.ns.length y1,.slice x2 t.kids.length y2]∧w.heap.size+1<w1.heap.size):=⟨hX2,hX2.lt⟩;have ag:Agree (· < w.heap.size) w w1:=fun g hg=>K01.block g hg;have hL:Deeds f (· < w1.heap.size) w1 (.slice a L.length c) L:=Deeds.imp2 hL0 (fun g hg=>Nat.lt_of_lt_of_le hg K01.size) ag;have HA:Hid (ArV (f+1) (· < w1.heap.size) w1 (.slice x1 t.ns.length y1) (.slice x2 t.kids.length y2) t):=(hA0.agree ag).mono (fun g hg=>Nat.lt_of_lt_of_le hg K01.size);have hU:Lib.Utf8Tabs 0 1 w1:=Utf8Tabs.to hU0 K01 (Nat.le_refl _);have HK01:Hid (Below w.heap.size w w1):=K01;clear hL0 hA0 hU0 ag K01 hX2 X2 kk kc;have HL:Hid (Deeds f (· < w1.heap.size) w1 (.slice a L.length c) L):=hL;obtain ⟨hc1,hc2⟩:=RowB.bounds hL;have HU:Hid (∀ V,Below w1.heap.size w1 V→Lib.Utf8Tabs 0 1 V):=fun V hV=>Utf8Tabs.to hU hV (Nat.le_refl _);have HNE:Hid (TellsErr ne):=hne;clear hL hU hne
 go_wp2_with fail
 refine (new_any w1).mono ?_;rintro e wa ⟨rfl,rfl⟩
 go_wp2_with fail
 refine (refNew_any _).mono ?_;rintro e w2 ⟨rfl,hw2⟩;obtain ⟨M0,D0,hB⟩:=both_new f w1;rw [World.size_alloc] at hw2;rw [World.size_alloc];rw [← hw2] at hB;have K2:Below w1.heap.size w1 w2:=by
  rw [hw2];exact (((Below.refl _ _).alloc (Nat.le_refl _) _).alloc (by simp) _).alloc (by simp;omega) _
 have HB0:Hid (Both f M0 D0 w2 w1.heap.size (w1.heap.size+1+1) [fb0]):=hB;clear hw2 hB;generalize w1.heap.size+1+1=rb at *
 go_wp2_with fail
 go_loopw [11] (fun iv wr=>∃ (i:Nat) (T:List FrB) (M D:Nat→Prop),iv=.int .i64 i∧i≤L.length∧Hid (Both f M D wr w1.heap.size rb T)∧Below w1.heap.size w1 wr) (fun iv _=>L.length - (intOf iv).toNat)
 case atStart=>exact ⟨0,[fb0],M0,D0,rfl,Nat.zero_le _,HB0,K2⟩
 case round=>
  obtain ⟨i,T,M,D,rfl,hi,HB,kr⟩:=hrel;by_cases hgo:i<L.length∧i<60
  · obtain ⟨hlt,h60⟩:=hgo
    have i1:(i:Int)<(L.length:Int):=by omega
    have i2:(i:Int)<60:=by omega
    obtain ⟨g,o,rfl,hg,hc⟩:=RowB.ptr HL.out (by omega);obtain ⟨v,hv,hd⟩:=hc i hlt;have HI:Hid (i+1≤L.length):=by unfold Hid;omega
    have hcell:∀ k,k<14→wr.cell? ⟨g,o+i*14+k,none⟩=v.cells[k]?:=fun k hk=>by rw [kr.cell (p:=⟨g,o+i*14+k,none⟩) hg];exact hv k hk
    have HD:Hid (DdIs f (· < w1.heap.size) wr v (L.getD i dd0)):=hd.imp (fun _ h=>h) (fun q hq=>kr.block q hq);have q0:wr.cell? ⟨g,o+i*14,none⟩=some (.int .i64 v.k):=hcell 0 (by omega);have q1:wr.cell? ⟨g,o+i*14+1,none⟩=some (.slice v.na v.nn v.nc):=hcell 1 (by omega);have q2:wr.cell? ⟨g,o+i*14+2,none⟩=some (.slice v.x1 v.n1 v.y1):=hcell 2 (by omega);have q3:wr.cell? ⟨g,o+i*14+3,none⟩=some (.slice v.x2 v.n2 v.y2):=hcell 3 (by omega);have q4:wr.cell? ⟨g,o+i*14+4,none⟩=some (.string v.s1):=hcell 4 (by omega);have q5:wr.cell? ⟨g,o+i*14+5,none⟩=some (.string v.s2):=hcell 5 (by omega);have q6:wr.cell? ⟨g,o+i*14+6,none⟩=some (.string v.s3):=hcell 6 (by omega);have q7:wr.cell? ⟨g,o+i*14+7,none⟩=some (.string v.s4):=hcell 7 (by omega);have q8:wr.cell? ⟨g,o+i*14+8,none⟩=some (.slice v.b1 v.m1 v.z1):=hcell 8 (by omega);have q9:wr.cell? ⟨g,o+i*14+9,none⟩=some (.slice v.b2 v.m2 v.z2):=hcell 9 (by omega);have q10:wr.cell? ⟨g,o+i*14+10,none⟩=some (.slice v.b3 v.m3 v.z3):=hcell 10 (by omega);have q11:wr.cell? ⟨g,o+i*14+11,none⟩=some (.slice v.b4 v.m4 v.z4):=hcell 11 (by omega);have q12:wr.cell? ⟨g,o+i*14+12,none⟩=some (.bool v.br):=hcell 12 (by omega);have q13:wr.cell? ⟨g,o+i*14+13,none⟩=some (.int .i64 v.ln):=hcell 13 (by omega);have HC:Hid (Calls Tryz.prog 13 #[.pointer (some ⟨w1.heap.size,0,none⟩),.pointer (some ⟨rb,0,none⟩),.agg #[.int .i64 v.k,.slice v.na v.nn v.nc,.slice v.x1 v.n1 v.y1,.slice v.x2 v.n2 v.y2,.string v.s1,.string v.s2,.string v.s3,.string v.s4,.slice v.b1 v.m1 v.z1,.slice v.b2 v.m2 v.z2,.slice v.b3 v.m3 v.z3,.slice v.b4 v.m4 v.z4,.bool v.br,.int .i64 v.ln]] wr (DoneP f w1.heap.size rb wr)):=do_any HNE.out HB.out HD.out (fun _ h=>h) (fun V hV=>HU.out V (kr.trans hV));clear hcell hv hd hc HD
    go_wp2_with fail
    refine HC.out.mono ?_;rintro e w3 ⟨r,T',M',D',rfl,hB3,k3⟩;have HB3:Hid (Both f M' D' w3 w1.heap.size rb T'):=hB3;have K3:Below w1.heap.size w1 w3:=kr.trans k3;clear hB3 k3 HC q0 q1 q2 q3 q4 q5 q6 q7 q8 q9 q10 q11 q12 q13;go_wp2
    go_roundw
    case rel=>exact ⟨i+1,T',M',D',by go_num,HI.out,HB3,K3⟩
    case measure=>have:=HI.out;simp [intOf];omega
  · have HT:Hid (TabIs f M wr w1.heap.size T):=HB.out.tab
    have HK:Hid (TOK T):=HB.out.tok;clear HB;have hw:¬ i<L.length∨(i<L.length∧¬ i<60):=by omega
    clear hgo;rcases hw with hw | ⟨hw,hw2⟩
    case' inl=>
     have i1:¬ (i:Int)<(L.length:Int):=by omega
     clear hw
    case' inr=>
     have i1:(i:Int)<(L.length:Int):=by omega
     have i2:¬ (i:Int)<60:=by omega
     clear hw hw2
    all_goals
     by_cases hso:s=o
     · have hst:(s.toList==o.toList)=true:=by rw [same_textR,decide_eq_true hso]
       clear hso
       go_wp2_with fail
       refine (live11_ok wr).mono ?_;rintro e w4 ⟨rfl,k4⟩;have K4:Hid (Below w.heap.size w w4):=HK01.out.trans ((kr.trans (k4.mono kr.size)).mono HK01.out.size);clear k4 kr;go_wp2
       go_ret
       exact ⟨rfl,K4.out⟩
     · have hst:(s.toList==o.toList)=false:=by rw [same_textR,decide_eq_false hso]
       have hv:=var_other t hso HK.out;clear hso;obtain ⟨H,hH⟩:∃ H,hasB s (curL T s)=H:=⟨_,rfl⟩;obtain ⟨G,hG⟩:∃ G,getB s (curL T s)=G:=⟨_,rfl⟩;rw [hH,hG] at hv;have HV:Hid (hasB s (curL (setVarT T o t) s)=H∧getB s (curL (setVarT T o t) s)=G):=hv;clear hv
       go_wp2_with fail
       refine (tGet_any s HT.out).mono ?_;rintro e w4 ⟨y,rfl,hY,k4⟩;rw [hH];rw [hG] at hY;clear hH hG;have e4:=below_alloc w4 (.cells y.cells 49);have B4:=boxA_new w4 y.cells 49;have HY5:Hid (BndIs f (Fr wr.heap.size w4.heap.size) (w4.alloc (.cells y.cells 49)) y (cpB G)):=hY.imp (fun _ h=>h) (fun g hg=>e4.block g hg.2);have K4:Below w1.heap.size w1 w4:=kr.trans (k4.mono kr.size);have K5:Below w1.heap.size w1 (w4.alloc (.cells y.cells 49)):=K4.trans (e4.mono K4.size);have HT5:Hid (TabIs f M (w4.alloc (.cells y.cells 49)) w1.heap.size T):=(HT.out.below k4).below e4;have s4:=k4.size;clear hY K4
       go_upto_region 11 with fail
       obtain ⟨w5,hw5⟩:∃ u,w4.alloc (.cells y.cells 49)=u:=⟨_,rfl⟩;rw [hw5] at e4 B4 HY5 K5 HT5;have hw5':=hw5;dsimp only [BV.cells] at hw5';rw [hw5'];clear hw5 hw5';obtain ⟨bx,hbx⟩:∃ b,w4.heap.size=b:=⟨_,rfl⟩;rw [hbx] at B4 s4 HY5 ⊢;clear hbx e4 k4;have hX:=HX.out.1.below K5 HX.out.2;have q0:=hX.cell 0 rfl;have q1:=hX.cell 1 rfl;have hA5:=HA.out.agree (w':=w5) (fun g hg=>K5.block g hg);clear hX
       go_wp2_with fail
       refine (setVar_any (D:=(· < w1.heap.size)) o ho HT5.out (by have:=HK.out.cnt;omega) (fun g hg=>⟨Nat.lt_of_lt_of_le hg K5.size,fun e=>by have h1:=(HT.out.lowR.2 g e).1;have h2:g<w1.heap.size:=hg;omega⟩) hA5).mono ?_;rintro e w6 ⟨rfl,M',h6,kp6,_⟩;have HT6:Hid (TabIs f M' w6 w1.heap.size (setVarT T o t)):=h6;have K6:Below w1.heap.size w1 w6:=K5.trans (KpM.lowA HT5.out kp6);have HB6:Hid (BoxA w6 bx 49 y.cells):=B4.of_blk (kp6.block bx B4.lt (fun e=>by have:=(HT.out.lowR.2 bx e).2;omega));have hsz5:=B4.lt;have HY6:Hid (BndIs f (Fr wr.heap.size bx) w6 y (cpB G)):=HY5.out.imp (fun _ h=>h) (fun g hg=>kp6.block g (by have:=hg.2;omega) (fun e=>by have:=(HT.out.lowR.2 g e).2;have:=hg.1;omega));have s6:bx<w6.heap.size:=by have:=kp6.size;omega
       clear h6 kp6 HY5 B4 K5 HT5 q0 q1 hA5 hsz5
       go_wp2_with fail
       refine (tGet_any s HT6.out).mono ?_;rintro e w7 ⟨z,rfl,hZ,k7⟩;rw [HV.out.1];rw [HV.out.2] at hZ;have e7:=below_alloc w7 (.cells z.cells 49);have B7:=boxA_new w7 z.cells 49;have K7:Below w6.heap.size w6 (w7.alloc (.cells z.cells 49)):=k7.trans (e7.mono k7.size);have K8:Below w1.heap.size w1 (w7.alloc (.cells z.cells 49)):=K6.trans (K7.mono K6.size);have HB7:Hid (BoxA (w7.alloc (.cells z.cells 49)) bx 49 y.cells∧BoxA (w7.alloc (.cells z.cells 49)) w7.heap.size 49 z.cells):=⟨HB6.out.below K7 s6,B7⟩;have HY7:Hid (BndIs f (· < (w7.alloc (.cells z.cells 49)).heap.size) (w7.alloc (.cells z.cells 49)) y (cpB G)∧BndIs f (· < (w7.alloc (.cells z.cells 49)).heap.size) (w7.alloc (.cells z.cells 49)) z (cpB G)):=
        ⟨HY6.out.imp (fun g hg=>by have:=hg.2;have:=K7.size;show g<_;omega) (fun g hg=>K7.block g (by have:=hg.2;omega)),hZ.imp (fun g hg=>by have:=hg.2;have:=e7.size;show g<_;omega) (fun g hg=>e7.block g hg.2)⟩
       clear hZ e7 k7 B7 K7 HB6 HY6 HT6 K6 HV
       go_upto_region 13 with fail
       obtain ⟨v0,hv0⟩:∃ u,w7.alloc (.cells z.cells 49)=u:=⟨_,rfl⟩;rw [hv0] at HB7 HY7 K8;have hv0':=hv0;dsimp only [BV.cells] at hv0';rw [hv0'];clear hv0 hv0';obtain ⟨bz,hbz⟩:∃ b,w7.heap.size=b:=⟨_,rfl⟩;rw [hbz] at HB7 ⊢;clear hbz s6 s4;refine wp_region_noPanic ?_;obtain ⟨v,hv⟩:∃ v,v0.drew=v:=⟨_,rfl⟩;have HS:Hid (∀ V,Below v.heap.size v V→SAp bx bz y z V):=by
        subst hv;exact fun V kV=>⟨(HB7.out.1.of_blk (w':=v0.drew) rfl).below kV HB7.out.1.lt,(HB7.out.2.of_blk (w':=v0.drew) rfl).below kV HB7.out.2.lt⟩
       have HY:Hid (∀ V,Below v.heap.size v V→BndIs f (· < V.heap.size) V y (cpB G)∧BndIs f (· < V.heap.size) V z (cpB G)):=by
        subst hv;exact fun V kV=>⟨HY7.out.1.imp (fun g hg=>Nat.lt_of_lt_of_le hg kV.size) (fun g hg=>kV.block g hg),HY7.out.2.imp (fun g hg=>Nat.lt_of_lt_of_le hg kV.size) (fun g hg=>kV.block g hg)⟩
       have HKv:Hid (Below w.heap.size w v):=by subst hv;exact HK01.out.trans (K8.drew.mono HK01.out.size)
       have HSv:Hid (w.heap.size≤v.heap.size):=HKv.out.size;clear HB7 HY7 K8;refine wp_region_held_drew (S:=SAp bx bz y z) (by kernel_rfl) (by rw [hv];exact HS.out v (Below.refl _ _)) (fun hS => ?_);rw [hv] at hS ⊢;clear hv;refine wpAnyH_ready (rs:=[0]) (by kernel_rfl) (by simp) ?_;refine (AllReadyH.cons rfl (fun K hK => ?_) AllReadyH.nil);go_simp
       refine (live11_ok v).mono ?_;rintro e u1 ⟨rfl,j1⟩;have J1:Below v.heap.size v u1:=j1;go_simp
       refine hK.out _ _ (HS.out _ J1) (fun _ => ?_);clear hK K;refine tk (i:=1) (v:=.bool true) ?_;simp only [Act.put,zA,z0Z,z1Z];refine tk (i:=2) (v:=.bool H) ?_;simp only [Act.put,zA,z0Z,z1Z];refine tk (i:=3) (v:=.bool H) ?_;simp only [Act.put,zA,z0Z,z1Z];have hHH:(H==H)=true:=by simp
       refine tk (i:=4) (v:=.bool true) ?_;simp only [Act.put,zA,z0Z,z1Z];refine tk (i:=5) (v:=.bool true) ?_;simp only [Act.put,zA,z0Z,z1Z];refine tk (i:=6) (v:=.bool true) ?_;simp only [Act.put,zA,z0Z,z1Z];refine wpAnyH_take (i:=7) (v:=.agg y.cells) rfl (by kernel_rfl) (by kernel_rfl) (by kernel_rfl) (fun _ _ _ h=>h) (Or.inl ⟨by kernel_rfl,(by intro w hSw;obtain ⟨h0,h1,h2,h3,h4,h5,h6,h7,h8,h9,h10,h11,h12⟩:=cells13 hSw.1;clear hSw;go_simp)⟩) (by assumption) ?_;simp only [Act.put,zA,z0Z,z1Z];refine wpAnyH_take (i:=9) (v:=.agg z.cells) rfl (by kernel_rfl) (by kernel_rfl) (by kernel_rfl) (fun _ _ _ h=>h) (Or.inl ⟨by kernel_rfl,(by intro w hSw;obtain ⟨h0,h1,h2,h3,h4,h5,h6,h7,h8,h9,h10,h11,h12⟩:=cells13 hSw.2;clear hSw;go_simp)⟩) (by assumption) ?_;simp only [Act.put,zA,z0Z,z1Z];refine wpAnyH_ready (rs:=[8]) (by kernel_rfl) (by simp) ?_;refine (AllReadyH.cons rfl (fun K hK => ?_) AllReadyH.nil);go_simp
       refine (bound_any y u1).mono ?_;rintro e u2 ⟨rfl,j2⟩;have J2:Below v.heap.size v u2:=J1.trans (j2.mono J1.size);go_simp
       refine hK.out _ _ (HS.out _ J2) (fun _ => ?_);clear hK K;refine wpAnyH_ready (rs:=[10]) (by kernel_rfl) (by simp) ?_;refine (AllReadyH.cons rfl (fun K hK => ?_) AllReadyH.nil);go_simp
       refine (bound_any z u2).mono ?_;rintro e u3 ⟨rfl,j3⟩;have J3:Below v.heap.size v u3:=J2.trans (j3.mono J2.size);go_simp
       refine hK.out _ _ (HS.out _ J3) (fun _ => ?_);clear hK K;refine wpAnyH_ready (rs:=[11]) (by kernel_rfl) (by simp) ?_;refine (AllReadyH.cons rfl (fun K hK => ?_) AllReadyH.nil);go_simp
       refine (refSame11_is (HY.out u3 J3).1 (HY.out u3 J3).2 (fun _ h=>h)).mono ?_;rintro e u4 ⟨rfl,j4⟩;have J4:Below v.heap.size v u4:=J3.trans (j4.mono J3.size);go_simp
       refine hK.out _ _ (HS.out _ J4) (fun _ => ?_);clear hK K;refine tk (i:=12) (oi:={ dst:=some 71,op:=Op.pick (Operand.tmp 65) (Operand.tmp 70) (Operand.const (Value.bool false)),type:=4,pos:= "law.go:146",after:=#[{ on:=6,ground:=Ground.data },{ on:=11,ground:=Ground.data }],guard:=none }) (v:=.bool true) ?_;simp only [Act.put,zA,z0Z,z1Z];refine tk (i:=13) (oi:={ dst:=some 6,op:=Op.assign (Operand.tmp 71),type:=4,pos:= "law.go:146",after:=#[{ on:=12,ground:=Ground.data },{ on:=11,ground:=Ground.chain },{ on:=0,ground:=Ground.phase },{ on:=1,ground:=Ground.phase },{ on:=2,ground:=Ground.phase },{ on:=3,ground:=Ground.phase },{ on:=4,ground:=Ground.phase },{ on:=5,ground:=Ground.phase },{ on:=6,ground:=Ground.phase },{ on:=7,ground:=Ground.phase },{ on:=8,ground:=Ground.phase },{ on:=9,ground:=Ground.phase },{ on:=10,ground:=Ground.phase },{ on:=11,ground:=Ground.phase },{ on:=12,ground:=Ground.phase }],guard:=none }) (v:=.bool true) ?_;simp only [Act.put,zA,z0Z,z1Z];refine wpAnyH_done (by kernel_rfl) ?_ _;have HF:Hid (Below w.heap.size w u4):=HKv.out.trans (J4.mono HSv.out);clear HKv HSv HS HY J1 J2 J3 J4 j1 j2 j3 j4;dsimp only [NoPanic];go_wp2
       go_ret
       exact ⟨rfl,HF.out⟩
end
end Go.Proofs.YtimfnalpmmkndaaGreatDoor
