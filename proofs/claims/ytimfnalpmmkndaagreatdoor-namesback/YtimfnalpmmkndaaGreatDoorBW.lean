/- The law's walk: NamesBack. -/
import Derived.Test.YtimfnalpmmkndaaGreatDoorRZ
import Derived.Test.YtimfnalpmmkndaaGreatDoorNH
import Derived.Test.YtimfnalpmmkndaaGreatDoorFK
import Derived.Test.YtimfnalpmmkndaaGreatDoorSB
import Derived.Test.YtimfnalpmmkndaaGreatDoorUP
set_option maxRecDepth 100000
set_option maxHeartbeats 16000000
set_option linter.unusedVariables false
set_option linter.unusedSimpArgs false
namespace Go.Proofs.YtimfnalpmmkndaaGreatDoor
section
open Go.RowKit
attribute [local go_sem] Oper.semAt_some
def SBk (bx bz:Nat) (y z:BV) (V:World):Prop:=BoxA V bx 49 y.cells∧BoxA V bz 49 z.cells
theorem KpM.lowB {f:Nat} {M:Nat→Prop} {w w':World} {tb:Nat} {T:List FrB} (h:TabIs f M w tb T) (k:KpM M w w'):Below tb w w':=k.below (fun g hg=>(h.lowR.2 g hg).1) (Nat.le_of_lt h.lowR.1)
theorem rdT_oneB {M:Nat→Prop} {w:World} (hM:¬ M w.heap.size) (s:ByteArray):RdT (DM M (w.alloc (.cells #[.string s] 9))) (w.alloc (.cells #[.string s] 9)) (.slice (some ⟨w.heap.size,0,none⟩) [s].length 1) [s]:=
 ⟨_,1,rfl,Nat.le_refl _,by omega,(fun e=>by cases e),Or.inr ⟨w.heap.size,0,rfl,⟨by simp,hM⟩,fun j hj=>by
  obtain rfl:j=0:=by simp at hj;exact hj
  exact (boxA_new w #[.string s] 9).cell 0 rfl⟩⟩
structure BK (f lo hi tb nb:Nat) (T2:List FrB) (M:Nat→Prop) (T1:List FrB) (w:World):Prop where
 tab:TabIs f M w tb T1
 tok:TOK T1
 was:WasIs f lo hi w nb T2
 dis:∀ g,M g→¬ Fr lo hi g
 hi:hi≤w.heap.size
theorem BK.step {f lo hi tb nb:Nat} {T2 T1 T1':List FrB} {M M':Nat→Prop} {w w':World} (h:BK f lo hi tb nb T2 M T1 w) (h1:TabIs f M' w' tb T1') (h2:TOK T1') (k:KpM M w w') (n:NewM M M' w):BK f lo hi tb nb T2 M' T1' w'∧Below tb w w':=
 ⟨⟨h1,h2,h.was.keep (fun g hg=>k.block g (by have:=hg.2;have:=h.hi;omega) (fun e=>h.dis g e hg)) k.size,fun g hg hf=>by
  rcases n g hg with e | e
  · exact h.dis g e hf
  · have:=hf.2;have:=h.hi;omega,Nat.le_trans h.hi k.size⟩,KpM.lowB h.tab k⟩
theorem BK.below {f lo hi tb nb:Nat} {T2 T1:List FrB} {M:Nat→Prop} {w w':World} (h:BK f lo hi tb nb T2 M T1 w) (k:Below w.heap.size w w'):BK f lo hi tb nb T2 M T1 w':=
 (h.step (h.tab.below k) h.tok (KpM.of_below k) (NewM.refl _ _)).1
theorem namesBack_any {f:Nat} {w:World} {a:Option Addr} {c:Nat} {L:List Dd} {b:Option Addr} {d:Nat} {ss:List ByteArray} {x1 x2:Option Addr} {y1 y2:Nat} {t:Tr} (hL0:Deeds f (· < w.heap.size) w (.slice a L.length c) L) (hS0:RdS w.heap.size w (.slice b ss.length d) ss) (hsz:∀ x∈ss,x.size≤9223372036854775807) (hA0:ArV (f+1) (· < w.heap.size) w (.slice x1 t.ns.length y1) (.slice x2 t.kids.length y2) t) (hU0:Lib.Utf8Tabs 0 1 w) :
    Calls Tryz.prog 4 #[.slice a L.length c,.slice b ss.length d,.agg #[.slice x1 t.ns.length y1,.slice x2 t.kids.length y2]] w fun e w'=>e=.returned (.bool true)∧Below w.heap.size w w':=by
 obtain ⟨ne,hne⟩:=tellsErr_ex;have k1:=below_alloc w (.cells #[.slice x1 t.ns.length y1,.slice x2 t.kids.length y2] 29);have X1:=boxA_new w #[.slice x1 t.ns.length y1,.slice x2 t.kids.length y2] 29;go_enter Tryz.func4,Tryz.ntmps4
 go_upto_region 1 with fail
 obtain ⟨w1,hw1⟩:∃ w1,w.alloc (.cells #[.slice x1 t.ns.length y1,.slice x2 t.kids.length y2] 29)=w1:=⟨_,rfl⟩;rw [hw1] at k1 X1 ⊢;clear hw1;have HX:Hid (BoxA w1 w.heap.size 29 #[.slice x1 t.ns.length y1,.slice x2 t.kids.length y2]∧w.heap.size<w1.heap.size):=⟨X1,X1.lt⟩;obtain ⟨ba,hba⟩:∃ ba,w.heap.size=ba:=⟨_,rfl⟩;have HBA:Hid (w.heap.size=ba):=hba;have ag:Agree (· < w.heap.size) w w1:=fun g hg=>k1.block g hg;have hL:Deeds f (· < w1.heap.size) w1 (.slice a L.length c) L:=Deeds.imp2 hL0 (fun g hg=>Nat.lt_of_lt_of_le hg k1.size) ag;have HA:Hid (ArV (f+1) (· < w1.heap.size) w1 (.slice x1 t.ns.length y1) (.slice x2 t.kids.length y2) t):=(hA0.agree ag).mono (fun g hg=>Nat.lt_of_lt_of_le hg k1.size);have HSS:Hid (RdS w1.heap.size w1 (.slice b ss.length d) ss):=(hS0.below k1 (Nat.le_refl _)).mono k1.size;obtain ⟨hcs1,hcs2⟩:=hS0.cap;have hU:Lib.Utf8Tabs 0 1 w1:=Utf8Tabs.to hU0 k1 (Nat.le_refl _);have HK01:Hid (Below w.heap.size w w1):=k1;have HSZ:Hid (∀ x∈ss,x.size≤9223372036854775807):=hsz;rw [hba] at HX ⊢;clear hL0 hA0 hU0 ag k1 X1 hS0 hba hsz;have HL:Hid (Deeds f (· < w1.heap.size) w1 (.slice a L.length c) L):=hL;obtain ⟨hc1,hc2⟩:=RowB.bounds hL;have HU:Hid (∀ V,Below w1.heap.size w1 V→Lib.Utf8Tabs 0 1 V):=fun V hV=>Utf8Tabs.to hU hV (Nat.le_refl _);have HNE:Hid (TellsErr ne):=hne;clear hL hU hne
 go_wp2_with fail
 refine (new_any w1).mono ?_;rintro e wa ⟨rfl,rfl⟩
 go_wp2_with fail
 refine (refNew_any _).mono ?_;rintro e w2 ⟨rfl,hw2⟩;obtain ⟨M0,D0,hB⟩:=both_new f w1;rw [World.size_alloc] at hw2;rw [World.size_alloc];rw [← hw2] at hB;have K2:Below w1.heap.size w1 w2:=by
  rw [hw2];exact (((Below.refl _ _).alloc (Nat.le_refl _) _).alloc (by simp) _).alloc (by simp;omega) _
 have HB0:Hid (Both f M0 D0 w2 w1.heap.size (w1.heap.size+1+1) [fb0]):=hB;clear hw2 hB;generalize w1.heap.size+1+1=rb at *
 go_wp2_with fail
 go_loopw [9] (fun iv wr=>∃ (i:Nat) (T:List FrB) (M D:Nat→Prop),iv=.int .i64 i∧i≤L.length∧Hid (Both f M D wr w1.heap.size rb T)∧Below w1.heap.size w1 wr) (fun iv _=>L.length - (intOf iv).toNat)
 case atStart=>exact ⟨0,[fb0],M0,D0,rfl,Nat.zero_le _,HB0,K2⟩
 case round=>
  obtain ⟨i,T,M,D,rfl,hi,HB,kr⟩:=hrel;by_cases hgo:i<L.length∧i<60
  · obtain ⟨hlt,h60⟩:=hgo
    have i1:(i:Int)<(L.length:Int):=by omega
    have i2:(i:Int)<60:=by omega
    obtain ⟨g,o,rfl,hg,hc⟩:=RowB.ptr HL.out (by omega);obtain ⟨v,hv,hd⟩:=hc i hlt;have HI:Hid (i+1≤L.length):=by unfold Hid;omega
    have hcell:∀ k,k<14→wr.cell? ⟨g,o+i*14+k,none⟩=v.cells[k]?:=fun k hk=>by rw [kr.cell (p:=⟨g,o+i*14+k,none⟩) hg];exact hv k hk
    have HD:Hid (DdIs f (· < w1.heap.size) wr v (L.getD i dd0)):=hd.imp (fun _ h=>h) (fun q hq=>kr.block q hq);have q0:wr.cell? ⟨g,o+i*14,none⟩=some (.int .i64 v.k):=hcell 0 (by omega);have q1:wr.cell? ⟨g,o+i*14+1,none⟩=some (.slice v.na v.nn v.nc):=hcell 1 (by omega);have q2:wr.cell? ⟨g,o+i*14+2,none⟩=some (.slice v.x1 v.n1 v.y1):=hcell 2 (by omega);have q3:wr.cell? ⟨g,o+i*14+3,none⟩=some (.slice v.x2 v.n2 v.y2):=hcell 3 (by omega);have q4:wr.cell? ⟨g,o+i*14+4,none⟩=some (.string v.s1):=hcell 4 (by omega);have q5:wr.cell? ⟨g,o+i*14+5,none⟩=some (.string v.s2):=hcell 5 (by omega);have q6:wr.cell? ⟨g,o+i*14+6,none⟩=some (.string v.s3):=hcell 6 (by omega);have q7:wr.cell? ⟨g,o+i*14+7,none⟩=some (.string v.s4):=hcell 7 (by omega);have q8:wr.cell? ⟨g,o+i*14+8,none⟩=some (.slice v.b1 v.m1 v.z1):=hcell 8 (by omega);have q9:wr.cell? ⟨g,o+i*14+9,none⟩=some (.slice v.b2 v.m2 v.z2):=hcell 9 (by omega);have q10:wr.cell? ⟨g,o+i*14+10,none⟩=some (.slice v.b3 v.m3 v.z3):=hcell 10 (by omega);have q11:wr.cell? ⟨g,o+i*14+11,none⟩=some (.slice v.b4 v.m4 v.z4):=hcell 11 (by omega);have q12:wr.cell? ⟨g,o+i*14+12,none⟩=some (.bool v.br):=hcell 12 (by omega);have q13:wr.cell? ⟨g,o+i*14+13,none⟩=some (.int .i64 v.ln):=hcell 13 (by omega);have HC:Hid (Calls Tryz.prog 13 #[.pointer (some ⟨w1.heap.size,0,none⟩),.pointer (some ⟨rb,0,none⟩),.agg #[.int .i64 v.k,.slice v.na v.nn v.nc,.slice v.x1 v.n1 v.y1,.slice v.x2 v.n2 v.y2,.string v.s1,.string v.s2,.string v.s3,.string v.s4,.slice v.b1 v.m1 v.z1,.slice v.b2 v.m2 v.z2,.slice v.b3 v.m3 v.z3,.slice v.b4 v.m4 v.z4,.bool v.br,.int .i64 v.ln]] wr (DoneP f w1.heap.size rb wr)):=do_any HNE.out HB.out HD.out (fun _ h=>h) (fun V hV=>HU.out V (kr.trans hV));clear hcell hv hd hc HD
    go_wp2_with fail
    refine HC.out.mono ?_;rintro e w3 ⟨r,T',M',D',rfl,hB3,k3⟩;have HB3:Hid (Both f M' D' w3 w1.heap.size rb T'):=hB3;have K3:Below w1.heap.size w1 w3:=kr.trans k3;clear hB3 k3 HC q0 q1 q2 q3 q4 q5 q6 q7 q8 q9 q10 q11 q12 q13;go_wp2
    go_roundw
    case rel=>exact ⟨i+1,T',M',D',by go_num,HI.out,HB3,K3⟩
    case measure=>have:=HI.out;simp [intOf];omega
  · have HT:Hid (TabIs f M wr w1.heap.size T):=HB.out.tab
    have HK:Hid (TOK T):=HB.out.tok;clear HB;have hw:¬ i<L.length∨(i<L.length∧¬ i<60):=by omega
    clear hgo;rcases hw with hw | ⟨hw,hw2⟩
    case' inl=>
     have i1:¬ (i:Int)<(L.length:Int):=by omega
     clear hw
    case' inr=>
     have i1:(i:Int)<(L.length:Int):=by omega
     have i2:¬ (i:Int)<60:=by omega
     clear hw hw2
    all_goals
     go_wp2_with fail
     refine (fork_any HT.out HK.out).mono ?_;rintro e w2 ⟨nb,T2,rfl,hWas,hSay,k2⟩;have HSY:Hid (SayT T2 T):=hSay;have HBK0:Hid (BK f wr.heap.size w2.heap.size w1.heap.size nb T2 M T w2):=⟨HT.out.below k2,HK.out,hWas,fun g hg hf=>by have:=(HT.out.lowR.2 g hg).2;have:=hf.1;omega,Nat.le_refl _⟩;have K2:Below w1.heap.size w1 w2:=kr.trans (k2.mono kr.size);generalize wr.heap.size=lo at HBK0;generalize w2.heap.size=hi at HBK0;clear hWas hSay k2 HT
     go_wp2_with fail
     refine (tPush_any (B:=w1.heap.size) HBK0.out.tab (HSS.out.below K2 (Nat.le_refl _)) K2.size HSZ.out).mono ?_;rintro e w3 ⟨rfl,M3,hT3,hK3,hN3⟩;obtain ⟨hB3,q3⟩:=HBK0.out.step hT3 (HK.out.push ss) hK3 hN3;have K3:Below w1.heap.size w1 w3:=K2.trans q3;clear hT3 hK3 hN3 q3;by_cases hpe:pushE T ss=0
     rotate_left
     · have hp:¬ pushE T ss=0:=hpe
       have hpb:(pushE T ss != 0)=true:=by simpa using hpe
       generalize pushE T ss=pe at *;clear hpe hB3
       go_wp2_with fail
       refine (live11_ok w3).mono ?_;rintro e w4 ⟨rfl,k4⟩;have K4:Hid (Below w.heap.size w w4):=HK01.out.trans ((K3.trans (k4.mono K3.size)).mono HK01.out.size);clear k4 kr;go_wp2
       go_ret
       exact ⟨rfl,K4.out⟩
     have hTop:TopIs T (dedF [] ss) (pushT T ss):=⟨⟨dedF [] ss,[]⟩,by unfold pushT;rw [if_pos hpe],rfl⟩;have HB3:Hid (∃ M T1,BK f lo hi w1.heap.size nb T2 M T1 w3∧TopIs T (dedF [] ss) T1):=⟨M3,_,hB3,hTop⟩;rw [hpe];clear hpe hB3 hTop HBK0
     go_wp2_with fail
     go_loopw [11] (fun iv wr=>∃ (i:Nat),iv=.int .i64 i∧i≤ss.length∧Hid (∃ M T1,BK f lo hi w1.heap.size nb T2 M T1 wr∧TopIs T (dedF [] ss) T1)∧Below w1.heap.size w1 wr) (fun iv _=>ss.length - (intOf iv).toNat)
     case atStart=>exact ⟨0,rfl,Nat.zero_le _,HB3,K3⟩
     case round=>
      obtain ⟨j,rfl,hj,HBT,kj⟩:=hrel;obtain ⟨Mj,Tj,hBj,hTj⟩:=HBT.out;clear HBT HB3;by_cases hlt:j<ss.length
      · have j1:(j:Int)<(ss.length:Int):=by omega
        obtain ⟨g,o,rfl,hg,hc⟩:=HSS.out.ptr (by omega);have HQ:Hid (∀ V,Below w1.heap.size w1 V→V.cell? ⟨g,o+j,none⟩=some (.string (ss.getD j noT))):=fun V hV=>(hV.cell (p:=⟨g,o+j,none⟩) hg).trans (hc j hlt);have hmem:ss.getD j noT∈ss:=by rw [List.getD_eq_getElem?_getD,List.getElem?_eq_getElem hlt];exact List.getElem_mem hlt
        have HXM:Hid ((ss.getD j noT).size≤9223372036854775807∧memT (ss.getD j noT) (dedF [] ss)=true):=⟨HSZ.out _ hmem,memT_ded ss [] (Or.inr hmem)⟩;generalize ss.getD j noT=x at *;clear hc hmem;have HBj:Hid (BK f lo hi w1.heap.size nb T2 Mj Tj wr):=hBj;have HTj:Hid (TopIs T (dedF [] ss) Tj):=hTj;have HJL:Hid (j+1≤ss.length):=hlt;clear hBj hTj hlt
        go_upto_region 13 with fail
        refine wp_region_noPanic ?_;obtain ⟨v,hv⟩:∃ v,wr.drew=v:=⟨_,rfl⟩;have HBv:Hid (BK f lo hi w1.heap.size nb T2 Mj Tj v):=by subst hv;exact HBj.out.below (Below.refl _ _).drew
        have HKv:Hid (Below w1.heap.size w1 v):=by subst hv;exact kj.drew
        have HS:Hid (∀ V,Below w1.heap.size w1 V→(fun V=>V.cell? ⟨g,o+j,none⟩=some (.string x)∧V.cell? ⟨ba,0,none⟩=some (.slice x1 t.ns.length y1)∧V.cell? ⟨ba,1,none⟩=some (.slice x2 t.kids.length y2)) V):=fun V hV=>⟨HQ.out V hV,(HX.out.1.below hV HX.out.2).cell 0 rfl,(HX.out.1.below hV HX.out.2).cell 1 rfl⟩;clear HBj kj;refine wp_region_held_drew (S:=(fun V=>V.cell? ⟨g,o+j,none⟩=some (.string x)∧V.cell? ⟨ba,0,none⟩=some (.slice x1 t.ns.length y1)∧V.cell? ⟨ba,1,none⟩=some (.slice x2 t.kids.length y2))) (by kernel_rfl) (by rw [hv];exact HS.out v HKv.out) (fun hS => ?_);rw [hv] at hS ⊢;clear hv;refine tk (i:=0) (v:=.pointer (some ⟨w1.heap.size,0,none⟩)) ?_;simp only [Act.put,zA,z0Z,z1Z];refine tk (i:=1) (v:=.slice (some ⟨g,o,none⟩) ss.length d) ?_;simp only [Act.put,zA,z0Z,z1Z];refine tk (i:=2) (v:=.int .i64 j) ?_;simp only [Act.put,zA,z0Z,z1Z];refine tk (i:=3) (v:=.pointer (some ⟨g,o+j,none⟩)) ?_;simp only [Act.put,zA,z0Z,z1Z];refine tk (i:=4) (v:=.string x) ?_;simp only [Act.put,zA,z0Z,z1Z];refine tk (i:=5) (v:=.agg #[.slice x1 t.ns.length y1,.slice x2 t.kids.length y2]) ?_;simp only [Act.put,zA,z0Z,z1Z];refine wpAnyH_ready (rs:=[6]) (by kernel_rfl) (by simp) ?_;refine (AllReadyH.cons rfl (fun K hK => ?_) AllReadyH.nil);go_simp
        refine (setVar_any (D:=(· < w1.heap.size)) x HXM.out.1 HBv.out.tab (by have:=HBv.out.tok.cnt;omega) (fun q hq=>⟨Nat.lt_of_lt_of_le hq HKv.out.size,fun e=>by have h1:=(HBv.out.tab.lowR.2 q e).1;have h2:q<w1.heap.size:=hq;omega⟩) (HA.out.agree (fun q hq=>HKv.out.block q hq))).mono ?_;rintro e w4 ⟨rfl,M4,h4,k4,n4⟩;obtain ⟨hB4,q4⟩:=HBv.out.step h4 (HBv.out.tok.setVar x t) k4 n4;have K4:Below w1.heap.size w1 w4:=HKv.out.trans q4;have HB4:Hid (BK f lo hi w1.heap.size nb T2 M4 (setVarT Tj x t) w4∧TopIs T (dedF [] ss) (setVarT Tj x t)):=⟨hB4,HTj.out.setVar HK.out.pos HXM.out.2 t⟩;have j4:=HS.out w4 K4;generalize setVarT Tj x t=T4 at HB4;generalize setVarE Tj x t=r4;clear h4 k4 n4 hB4 q4 hS HBv HKv HTj;go_simp
        refine hK.out _ _ (j4) (fun _ => ?_);clear hK K;refine wpAnyH_done (by kernel_rfl) ?_ _;have q0:=HQ.out w4 K4;clear j4 HS;refine NoPanic.normal ?_
        go_wp2_with fail
        refine (setLab_any x HXM.out.1 HB4.out.1.tab (by have:=HB4.out.1.tok.cnt;omega)).mono ?_;rintro e w5 ⟨rfl,M5,h5,k5,n5⟩;obtain ⟨hB5,q5⟩:=HB4.out.1.step h5 (HB4.out.1.tok.setLab x 3) k5 n5;have K5:Below w1.heap.size w1 w5:=K4.trans q5;have HB5:Hid (BK f lo hi w1.heap.size nb T2 M5 (setLabT T4 x 3) w5∧TopIs T (dedF [] ss) (setLabT T4 x 3)):=⟨hB5,HB4.out.2.setLab HK.out.pos HXM.out.2 3⟩;generalize setLabT T4 x 3=T5 at HB5;generalize setLabE T4 x 3=r5;clear h5 k5 n5 hB5 q5 q0 HB4 K4;have q0:=HQ.out w5 K5
        go_wp2_with fail
        have HB5':Hid (BK f lo hi w1.heap.size nb T2 M5 T5 (w5.alloc (.cells #[.string x] 9))):=HB5.out.1.below (below_alloc w5 _);refine (tErase_any HB5'.out.tab (rdT_oneB (fun e=>by have:=(HB5.out.1.tab.lowR.2 _ e).2;omega) x)).mono ?_;rintro e w6 ⟨rfl,h6,k6⟩;obtain ⟨hB6,q6⟩:=HB5'.out.step h6 HB5'.out.tok.era k6 (NewM.refl _ _);have K6:Below w1.heap.size w1 w6:=(K5.trans ((below_alloc w5 _).mono K5.size)).trans q6;have HB6:Hid (BK f lo hi w1.heap.size nb T2 M5 (eraT T5 [x]) w6∧TopIs T (dedF [] ss) (eraT T5 [x])):=⟨hB6,HB5.out.2.era HK.out.pos HXM.out.2⟩;generalize eraT T5 [x]=T6 at HB6;generalize ((eraN T5 [x]:Nat):Int)=r6;clear h6 k6 hB6 q6 q0 HB5 HB5' K5;have q0:=HQ.out w6 K6
        go_wp2_with fail
        refine (setFn_any (s1:=x) (b1:=none) (b2:=none) (b3:=none) (b4:=none) (z1:=0) (z2:=0) (z3:=0) (z4:=0) (l1:=[]) (l2:=[]) (l3:=[]) (l4:=[]) (br:=false) HXM.out.1 HB6.out.1.tab (by have:=HB6.out.1.tok.cnt;omega) (lists4_nil _ _) (by simp [shortB,fnB])).mono ?_;rintro e w7 ⟨rfl,M7,h7,k7,n7⟩;obtain ⟨hB7,q7⟩:=HB6.out.1.step h7 (HB6.out.1.tok.setFn x _) k7 n7;have K7:Below w1.heap.size w1 w7:=K6.trans q7;have HB7:Hid (∃ M T1,BK f lo hi w1.heap.size nb T2 M T1 w7∧TopIs T (dedF [] ss) T1):=⟨M7,_,hB7,HB6.out.2.setFn HK.out.pos HXM.out.2 _⟩;clear h7 k7 n7 hB7 q7 q0 HB6 K6;generalize setFnE T6 x=r7;go_wp2
        go_roundw
        case rel=>exact ⟨j+1,by go_num,HJL.out,HB7,K7⟩
        case measure=>have:=HJL.out;simp [intOf];omega
      · have j1:¬ (j:Int)<(ss.length:Int):=by omega
        clear hlt;have hfew:=hBj.tok.few
        go_wp2_with fail
        refine (tPop_any hBj.tab (by omega)).mono ?_;rintro e w4 ⟨rfl,M4,h4,k4,n4⟩;obtain ⟨hp1,hp2⟩:=hTj.pop HK.out.pos;rw [hp1] at h4;rw [hp2];obtain ⟨hB4,q4⟩:=hBj.step h4 HK.out k4 n4;have K4:Below w1.heap.size w1 w4:=kj.trans q4;have HB4:Hid (BK f lo hi w1.heap.size nb T2 M4 T w4):=hB4;clear h4 k4 n4 hB4 q4 hBj hTj kj hp1 hp2 hfew
        go_wp2_with fail
        refine (tDepth_any HB4.out.tab).mono ?_;rintro e w5 ⟨rfl,hw5⟩;obtain rfl:=hw5.symm
        go_wp2_with fail
        refine (HB4.out.was.depth).mono ?_;rintro e w6 ⟨rfl,hw6⟩;obtain rfl:=hw6.symm;rw [HSY.out.len];generalize (T.length:Int) - 1=dp;have hdd:(dp != dp)=false:=by simp
        have HI3:Hid (∃ M,BK f lo hi w1.heap.size nb T2 M T w4):=⟨M4,HB4.out⟩;clear HB4
        go_wp2_with fail
        go_loopw [12] (fun iv wr=>∃ (i:Nat),iv=.int .i64 i∧i≤ss.length∧Hid (∃ M,BK f lo hi w1.heap.size nb T2 M T wr)∧Below w1.heap.size w1 wr) (fun iv _=>ss.length - (intOf iv).toNat)
        case atStart=>exact ⟨0,rfl,Nat.zero_le _,HI3,K4⟩
        case round=>
         obtain ⟨m,rfl,hm,HBT,km⟩:=hrel;obtain ⟨Mj,hBj⟩:=HBT.out;clear HBT HI3;by_cases hlt:m<ss.length
         · have j2:(m:Int)<(ss.length:Int):=by omega
           obtain ⟨g,o,rfl,hg,hc⟩:=HSS.out.ptr (by omega);have HQ:Hid (∀ V,Below w1.heap.size w1 V→V.cell? ⟨g,o+m,none⟩=some (.string (ss.getD m noT))):=fun V hV=>(hV.cell (p:=⟨g,o+m,none⟩) hg).trans (hc m hlt);generalize ss.getD m noT=x at *;have q0:=HQ.out wr km;have HML:Hid (m+1≤ss.length):=hlt;have hcur:=HSY.out.cur HK.out.pos x;obtain ⟨H,hH⟩:∃ H,hasB x (curL T x)=H:=⟨_,rfl⟩;obtain ⟨G,hG⟩:∃ G,cpB (getB x (curL T x))=G:=⟨_,rfl⟩;rw [hH,hG] at hcur;have HV:Hid (hasB x (curL T2 x)=H∧cpB (getB x (curL T2 x))=G):=hcur;have HBj:Hid (BK f lo hi w1.heap.size nb T2 Mj T wr):=hBj;clear hc hcur hBj hlt
           go_wp2_with fail
           refine (tGet_any x HBj.out.tab).mono ?_;rintro e w4 ⟨y,rfl,hY,k4⟩;rw [hH];rw [hG] at hY;clear hH hG;have e4:=below_alloc w4 (.cells y.cells 49);have B4:=boxA_new w4 y.cells 49;have HY5:Hid (BndIs f (Fr wr.heap.size w4.heap.size) (w4.alloc (.cells y.cells 49)) y G):=hY.imp (fun _ h=>h) (fun g hg=>e4.block g hg.2);have K4:Below w1.heap.size w1 w4:=km.trans (k4.mono km.size);have K5:Below w1.heap.size w1 (w4.alloc (.cells y.cells 49)):=K4.trans (e4.mono K4.size);have HB5:Hid (BK f lo hi w1.heap.size nb T2 Mj T (w4.alloc (.cells y.cells 49))):=(HBj.out.below k4).below e4;clear hY K4 q0
           go_upto_region 23 with fail
           obtain ⟨w5,hw5⟩:∃ u,w4.alloc (.cells y.cells 49)=u:=⟨_,rfl⟩;rw [hw5] at e4 B4 HY5 K5 HB5;have hw5':=hw5;dsimp only [BV.cells] at hw5';rw [hw5'];clear hw5 hw5';obtain ⟨bx,hbx⟩:∃ b,w4.heap.size=b:=⟨_,rfl⟩;rw [hbx] at B4 HY5 ⊢;clear hbx e4 k4 HBj;have q0:=HQ.out w5 K5;have hsz5:=B4.lt
           go_wp2_with fail
           refine (HB5.out.was.get x).mono ?_;rintro e w7 ⟨z,rfl,hZ,k7⟩;rw [HV.out.1];rw [HV.out.2] at hZ;have e7:=below_alloc w7 (.cells z.cells 49);have B7:=boxA_new w7 z.cells 49;have K7:Below w5.heap.size w5 (w7.alloc (.cells z.cells 49)):=k7.trans (e7.mono k7.size);have K8:Below w1.heap.size w1 (w7.alloc (.cells z.cells 49)):=K5.trans (K7.mono K5.size);have HB8:Hid (BK f lo hi w1.heap.size nb T2 Mj T (w7.alloc (.cells z.cells 49))):=HB5.out.below K7;have HB7:Hid (BoxA (w7.alloc (.cells z.cells 49)) bx 49 y.cells∧BoxA (w7.alloc (.cells z.cells 49)) w7.heap.size 49 z.cells):=⟨B4.below K7 hsz5,B7⟩;have HY7:Hid (BndIs f (· < (w7.alloc (.cells z.cells 49)).heap.size) (w7.alloc (.cells z.cells 49)) y G∧BndIs f (· < (w7.alloc (.cells z.cells 49)).heap.size) (w7.alloc (.cells z.cells 49)) z G):=
            ⟨HY5.out.imp (fun g hg=>by have:=hg.2;have:=K7.size;show g<_;omega) (fun g hg=>K7.block g (by have:=hg.2;omega)),hZ.imp (fun g hg=>by have:=hg.2;have:=e7.size;show g<_;omega) (fun g hg=>e7.block g hg.2)⟩
           clear hZ e7 k7 B7 K7 HY5 HV HB5 B4 K5 q0 hsz5
           go_upto_region 24 with fail
           obtain ⟨v0,hv0⟩:∃ u,w7.alloc (.cells z.cells 49)=u:=⟨_,rfl⟩;rw [hv0] at HB7 HY7 K8 HB8;have hv0':=hv0;dsimp only [BV.cells] at hv0';rw [hv0'];clear hv0 hv0';obtain ⟨bz,hbz⟩:∃ b,w7.heap.size=b:=⟨_,rfl⟩;rw [hbz] at HB7 ⊢;clear hbz;refine wp_region_noPanic ?_;obtain ⟨v,hv⟩:∃ v,v0.drew=v:=⟨_,rfl⟩;have HS:Hid (∀ V,Below v.heap.size v V→SBk bx bz y z V):=by
            subst hv;exact fun V kV=>⟨(HB7.out.1.of_blk (w':=v0.drew) rfl).below kV HB7.out.1.lt,(HB7.out.2.of_blk (w':=v0.drew) rfl).below kV HB7.out.2.lt⟩
           have HY:Hid (∀ V,Below v.heap.size v V→BndIs f (· < V.heap.size) V y G∧BndIs f (· < V.heap.size) V z G):=by
            subst hv;exact fun V kV=>⟨HY7.out.1.imp (fun g hg=>Nat.lt_of_lt_of_le hg kV.size) (fun g hg=>kV.block g hg),HY7.out.2.imp (fun g hg=>Nat.lt_of_lt_of_le hg kV.size) (fun g hg=>kV.block g hg)⟩
           have HKv:Hid (Below w1.heap.size w1 v):=by subst hv;exact K8.drew
           have HBv:Hid (BK f lo hi w1.heap.size nb T2 Mj T v):=by subst hv;exact HB8.out.below (Below.refl _ _).drew
           clear HB7 HY7 K8 HB8 km;refine wp_region_held_drew (S:=SBk bx bz y z) (by kernel_rfl) (by rw [hv];exact HS.out v (Below.refl _ _)) (fun hS => ?_);rw [hv] at hS ⊢;clear hv;refine tk (i:=0) (v:=.bool H) ?_;simp only [Act.put,zA,z0Z,z1Z];refine tk (i:=1) (v:=.bool H) ?_;simp only [Act.put,zA,z0Z,z1Z];have hHH:(H != H)=false:=by simp
           refine tk (i:=2) (v:=.bool false) ?_;simp only [Act.put,zA,z0Z,z1Z];refine tk (i:=3) (v:=.bool false) ?_;simp only [Act.put,zA,z0Z,z1Z];refine wpAnyH_take (i:=4) (v:=.agg y.cells) rfl (by kernel_rfl) (by kernel_rfl) (by kernel_rfl) (fun _ _ _ h=>h) (Or.inl ⟨by kernel_rfl,(by intro w hSw;obtain ⟨h0,h1,h2,h3,h4,h5,h6,h7,h8,h9,h10,h11,h12⟩:=cells13 hSw.1;clear hSw;go_simp)⟩) (by assumption) ?_;simp only [Act.put,zA,z0Z,z1Z];refine wpAnyH_take (i:=6) (v:=.agg z.cells) rfl (by kernel_rfl) (by kernel_rfl) (by kernel_rfl) (fun _ _ _ h=>h) (Or.inl ⟨by kernel_rfl,(by intro w hSw;obtain ⟨h0,h1,h2,h3,h4,h5,h6,h7,h8,h9,h10,h11,h12⟩:=cells13 hSw.2;clear hSw;go_simp)⟩) (by assumption) ?_;simp only [Act.put,zA,z0Z,z1Z];refine wpAnyH_ready (rs:=[5]) (by kernel_rfl) (by simp) ?_;refine (AllReadyH.cons rfl (fun K hK => ?_) AllReadyH.nil);go_simp
           refine (bound_any y v).mono ?_;rintro e u2 ⟨rfl,j2'⟩;have J2:Below v.heap.size v u2:=j2';go_simp
           refine hK.out _ _ (HS.out _ J2) (fun _ => ?_);clear hK K;refine wpAnyH_ready (rs:=[7]) (by kernel_rfl) (by simp) ?_;refine (AllReadyH.cons rfl (fun K hK => ?_) AllReadyH.nil);go_simp
           refine (bound_any z u2).mono ?_;rintro e u3 ⟨rfl,j3⟩;have J3:Below v.heap.size v u3:=J2.trans (j3.mono J2.size);go_simp
           refine hK.out _ _ (HS.out _ J3) (fun _ => ?_);clear hK K;refine wpAnyH_ready (rs:=[8]) (by kernel_rfl) (by simp) ?_;refine (AllReadyH.cons rfl (fun K hK => ?_) AllReadyH.nil);go_simp
           refine (refSame11_is (HY.out u3 J3).1 (HY.out u3 J3).2 (fun _ h=>h)).mono ?_;rintro e u4 ⟨rfl,j4⟩;have J4:Below v.heap.size v u4:=J3.trans (j4.mono J3.size);go_simp
           refine hK.out _ _ (HS.out _ J4) (fun _ => ?_);clear hK K;refine tk (i:=9) (v:=.bool false) ?_;simp only [Act.put,zA,z0Z,z1Z];refine tk (i:=10) (v:=.bool false) ?_;simp only [Act.put,zA,z0Z,z1Z];refine wpAnyH_done (by kernel_rfl) ?_ _;have HF:Hid (Below w1.heap.size w1 u4):=HKv.out.trans (J4.mono HKv.out.size);have HI4:Hid (∃ M,BK f lo hi w1.heap.size nb T2 M T u4):=⟨Mj,HBv.out.below J4⟩;clear HKv HS HY J2 J3 J4 j2' j3 j4 HBv hS;refine NoPanic.normal ?_;go_wp2
           go_roundw
           case rel=>exact ⟨m+1,by go_num,HML.out,HI4,HF.out⟩
           case measure=>have:=HML.out;simp [intOf];omega
         · have j2:¬ (m:Int)<(ss.length:Int):=by omega
           clear hlt hBj
           go_wp2_with fail
           refine (live11_ok wr).mono ?_;rintro e w4 ⟨rfl,k4⟩;have K5:Hid (Below w.heap.size w w4):=HK01.out.trans ((km.trans (k4.mono km.size)).mono HK01.out.size);clear k4 km;go_wp2
           go_ret
           exact ⟨rfl,K5.out⟩
end
end Go.Proofs.YtimfnalpmmkndaaGreatDoor
