/- The law's walk: NamesErased. -/
import Derived.Test.YtimfnalpmmkndaaGreatDoorRZ
import Derived.Test.YtimfnalpmmkndaaGreatDoorNH
set_option maxRecDepth 100000
set_option maxHeartbeats 16000000
set_option linter.unusedVariables false
set_option linter.unusedSimpArgs false
namespace Go.Proofs.YtimfnalpmmkndaaGreatDoor
open Go.RowKit
attribute [local go_sem] Oper.semAt_some
variable {M:Nat→Prop} {w:World} {f:Nat}
theorem rdT_one (hM:¬ M w.heap.size) (s:ByteArray):RdT (DM M (w.alloc (.cells #[.string s] 9))) (w.alloc (.cells #[.string s] 9)) (.slice (some ⟨w.heap.size,0,none⟩) [s].length 1) [s]:=
 ⟨_,1,rfl,Nat.le_refl _,by omega,(fun e=>by cases e),Or.inr ⟨w.heap.size,0,rfl,⟨by simp,hM⟩,fun j hj=>by
  obtain rfl:j=0:=by simp at hj;exact hj
  exact (boxA_new w #[.string s] 9).cell 0 rfl⟩⟩
theorem TabIs.fresh {tb:Nat} {T:List FrB} (h:TabIs f M w tb T):¬ M w.heap.size:=fun e=>by have:=(h.lowR.2 _ e).2;omega
theorem KpM.low {w':World} {tb:Nat} {T:List FrB} (h:TabIs f M w tb T) (k:KpM M w w'):Below tb w w':=k.below (fun g hg=>(h.lowR.2 g hg).1) (Nat.le_of_lt h.lowR.1)
theorem namesErased_any {a:Option Addr} {c:Nat} {L:List Dd} (s:ByteArray) (hL:Deeds f (· < w.heap.size) w (.slice a L.length c) L) (hU:Lib.Utf8Tabs 0 1 w) :
    Calls Tryz.prog 6 #[.slice a L.length c,.string s] w fun e w'=>e=.returned (.bool true)∧Below w.heap.size w w':=by
 obtain ⟨ne,hne⟩:=tellsErr_ex;have HL:Hid (Deeds f (· < w.heap.size) w (.slice a L.length c) L):=hL;obtain ⟨hc1,hc2⟩:=RowB.bounds hL;have HU:Hid (∀ V,Below w.heap.size w V→Lib.Utf8Tabs 0 1 V):=fun V hV=>Utf8Tabs.to hU hV (Nat.le_refl _);have HNE:Hid (TellsErr ne):=hne;clear hL hU hne;go_enter Tryz.func6,Tryz.ntmps6
 go_wp2_with fail
 refine (new_any w).mono ?_;rintro e w1 ⟨rfl,rfl⟩
 go_wp2_with fail
 refine (refNew_any _).mono ?_;rintro e w2 ⟨rfl,hw2⟩;obtain ⟨M0,D0,hB⟩:=both_new f w;rw [World.size_alloc] at hw2;rw [World.size_alloc];rw [← hw2] at hB;have K2:Below w.heap.size w w2:=by
  rw [hw2];exact (((Below.refl _ _).alloc (Nat.le_refl _) _).alloc (by simp) _).alloc (by simp;omega) _
 have HB0:Hid (Both f M0 D0 w2 w.heap.size (w.heap.size+1+1) [fb0]):=hB;clear hw2 hB;generalize w.heap.size+1+1=rb at *
 go_wp2_with fail
 go_loopw [7] (fun iv wr=>∃ (i:Nat) (T:List FrB) (M D:Nat→Prop),iv=.int .i64 i∧i≤L.length∧Hid (Both f M D wr w.heap.size rb T)∧Below w.heap.size w wr) (fun iv _=>L.length - (intOf iv).toNat)
 case atStart=>exact ⟨0,[fb0],M0,D0,rfl,Nat.zero_le _,HB0,K2⟩
 case round=>
  obtain ⟨i,T,M,D,rfl,hi,HB,kr⟩:=hrel;by_cases hgo:i<L.length∧i<60
  · obtain ⟨hlt,h60⟩:=hgo
    have i1:(i:Int)<(L.length:Int):=by omega
    have i2:(i:Int)<60:=by omega
    obtain ⟨g,o,rfl,hg,hc⟩:=RowB.ptr HL.out (by omega);obtain ⟨v,hv,hd⟩:=hc i hlt;have HI:Hid (i+1≤L.length):=by unfold Hid;omega
    have hcell:∀ k,k<14→wr.cell? ⟨g,o+i*14+k,none⟩=v.cells[k]?:=fun k hk=>by rw [kr.cell (p:=⟨g,o+i*14+k,none⟩) hg];exact hv k hk
    have HD:Hid (DdIs f (· < w.heap.size) wr v (L.getD i dd0)):=hd.imp (fun _ h=>h) (fun q hq=>kr.block q hq);have q0:wr.cell? ⟨g,o+i*14,none⟩=some (.int .i64 v.k):=hcell 0 (by omega);have q1:wr.cell? ⟨g,o+i*14+1,none⟩=some (.slice v.na v.nn v.nc):=hcell 1 (by omega);have q2:wr.cell? ⟨g,o+i*14+2,none⟩=some (.slice v.x1 v.n1 v.y1):=hcell 2 (by omega);have q3:wr.cell? ⟨g,o+i*14+3,none⟩=some (.slice v.x2 v.n2 v.y2):=hcell 3 (by omega);have q4:wr.cell? ⟨g,o+i*14+4,none⟩=some (.string v.s1):=hcell 4 (by omega);have q5:wr.cell? ⟨g,o+i*14+5,none⟩=some (.string v.s2):=hcell 5 (by omega);have q6:wr.cell? ⟨g,o+i*14+6,none⟩=some (.string v.s3):=hcell 6 (by omega);have q7:wr.cell? ⟨g,o+i*14+7,none⟩=some (.string v.s4):=hcell 7 (by omega);have q8:wr.cell? ⟨g,o+i*14+8,none⟩=some (.slice v.b1 v.m1 v.z1):=hcell 8 (by omega);have q9:wr.cell? ⟨g,o+i*14+9,none⟩=some (.slice v.b2 v.m2 v.z2):=hcell 9 (by omega);have q10:wr.cell? ⟨g,o+i*14+10,none⟩=some (.slice v.b3 v.m3 v.z3):=hcell 10 (by omega);have q11:wr.cell? ⟨g,o+i*14+11,none⟩=some (.slice v.b4 v.m4 v.z4):=hcell 11 (by omega);have q12:wr.cell? ⟨g,o+i*14+12,none⟩=some (.bool v.br):=hcell 12 (by omega);have q13:wr.cell? ⟨g,o+i*14+13,none⟩=some (.int .i64 v.ln):=hcell 13 (by omega);have HC:Hid (Calls Tryz.prog 13 #[.pointer (some ⟨w.heap.size,0,none⟩),.pointer (some ⟨rb,0,none⟩),.agg #[.int .i64 v.k,.slice v.na v.nn v.nc,.slice v.x1 v.n1 v.y1,.slice v.x2 v.n2 v.y2,.string v.s1,.string v.s2,.string v.s3,.string v.s4,.slice v.b1 v.m1 v.z1,.slice v.b2 v.m2 v.z2,.slice v.b3 v.m3 v.z3,.slice v.b4 v.m4 v.z4,.bool v.br,.int .i64 v.ln]] wr (DoneP f w.heap.size rb wr)):=do_any HNE.out HB.out HD.out (fun _ h=>h) (fun V hV=>HU.out V (kr.trans hV));clear hcell hv hd hc HD
    go_wp2_with fail
    refine HC.out.mono ?_;rintro e w3 ⟨r,T',M',D',rfl,hB3,k3⟩;have HB3:Hid (Both f M' D' w3 w.heap.size rb T'):=hB3;have K3:Below w.heap.size w w3:=kr.trans k3;clear hB3 k3 HC q0 q1 q2 q3 q4 q5 q6 q7 q8 q9 q10 q11 q12 q13;go_wp2
    go_roundw
    case rel=>exact ⟨i+1,T',M',D',by go_num,HI.out,HB3,K3⟩
    case measure=>have:=HI.out;simp [intOf];omega
  · have HT:Hid (TabIs f M wr w.heap.size T):=HB.out.tab
    have HK:Hid (TOK T):=HB.out.tok;have HFR:Hid (hasB s (curL (delT T s) s)=false∧getB s (curL (delT T s) s)=bd0∧eraN (delT T s) [s]=0):=by
     have h1:=has_del HB.out.tok s;refine ⟨h1,getB_no h1,?_⟩;rw [eraN,h1];rfl
    clear HB;have hw:¬ i<L.length∨(i<L.length∧¬ i<60):=by omega
    clear hgo;rcases hw with hw | ⟨hw,hw2⟩
    · have i1:¬ (i:Int)<(L.length:Int):=by omega
      clear hw
      go_wp2_with fail
      refine (tGet_any s HT.out).mono ?_;rintro e w4 ⟨y,rfl,_,k4⟩;have HN:Hid ((eraN T [s]:Int)=if hasB s (curL T s)=true then 1 else 0):=by
       unfold Hid;rw [eraN]
       cases hasB s (curL T s) <;> rfl
      generalize hasB s (curL T s)=H at *;have K4:Below w.heap.size w w4:=kr.trans (k4.mono kr.size);have k5:=below_alloc w4 (.cells #[.int .i64 y.k,.slice y.a1 y.n1 y.y1,.slice y.a2 y.n2 y.y2,.string y.s1,.string y.s2,.string y.s3,.string y.s4,.slice y.b1 y.m1 y.z1,.slice y.b2 y.m2 y.z2,.slice y.b3 y.m3 y.z3,.slice y.b4 y.m4 y.z4,.bool y.br,.int .i64 y.ln] 49);have HT5:Hid (TabIs f M (w4.alloc (.cells #[.int .i64 y.k,.slice y.a1 y.n1 y.y1,.slice y.a2 y.n2 y.y2,.string y.s1,.string y.s2,.string y.s3,.string y.s4,.slice y.b1 y.m1 y.z1,.slice y.b2 y.m2 y.z2,.slice y.b3 y.m3 y.z3,.slice y.b4 y.m4 y.z4,.bool y.br,.int .i64 y.ln] 49)) w.heap.size T):=(HT.out.below k4).below k5;have K5:Below w.heap.size w (w4.alloc (.cells #[.int .i64 y.k,.slice y.a1 y.n1 y.y1,.slice y.a2 y.n2 y.y2,.string y.s1,.string y.s2,.string y.s3,.string y.s4,.slice y.b1 y.m1 y.z1,.slice y.b2 y.m2 y.z2,.slice y.b3 y.m3 y.z3,.slice y.b4 y.m4 y.z4,.bool y.br,.int .i64 y.ln] 49)):=K4.trans (k5.mono K4.size)
      go_wp2_with fail
      have es:w4.heap.size+1=(w4.alloc (.cells #[.int .i64 y.k,.slice y.a1 y.n1 y.y1,.slice y.a2 y.n2 y.y2,.string y.s1,.string y.s2,.string y.s3,.string y.s4,.slice y.b1 y.m1 y.z1,.slice y.b2 y.m2 y.z2,.slice y.b3 y.m3 y.z3,.slice y.b4 y.m4 y.z4,.bool y.br,.int .i64 y.ln] 49)).heap.size:=by simp
      rw [es];generalize w4.alloc (.cells #[.int .i64 y.k,.slice y.a1 y.n1 y.y1,.slice y.a2 y.n2 y.y2,.string y.s1,.string y.s2,.string y.s3,.string y.s4,.slice y.b1 y.m1 y.z1,.slice y.b2 y.m2 y.z2,.slice y.b3 y.m3 y.z3,.slice y.b4 y.m4 y.z4,.bool y.br,.int .i64 y.ln] 49)=u at *;clear es;have HT6:Hid (TabIs f M (u.alloc (.cells #[.string s] 9)) w.heap.size T):=HT5.out.below (below_alloc u _);refine (tErase_any HT6.out (rdT_one HT5.out.fresh s)).mono ?_;rintro e w5 ⟨rfl,h5,kp5⟩;rw [HN.out];obtain ⟨N,hN⟩:∃ N:Int,(if H=true then (1:Int) else 0)=N:=⟨_,rfl⟩;rw [hN];have HNN:Hid ((if H=true then (1:Int) else 0)=N):=hN;clear hN;have HT7:Hid (TabIs f M w5 w.heap.size (delT T s)):=h5;have K7:Below w.heap.size w w5:=(K5.trans ((below_alloc u _).mono K5.size)).trans (KpM.low HT6.out kp5);clear h5 kp5 HN HT6 HT5 K5 k4 k5 K4
      go_wp2_with fail
      refine (tGet_any s HT7.out).mono ?_;rintro e w6 ⟨z,rfl,_,k6⟩;rw [HFR.out.1];have K8:Below w.heap.size w w6:=K7.trans (k6.mono K7.size);have k7:=below_alloc w6 (.cells #[.int .i64 z.k,.slice z.a1 z.n1 z.y1,.slice z.a2 z.n2 z.y2,.string z.s1,.string z.s2,.string z.s3,.string z.s4,.slice z.b1 z.m1 z.z1,.slice z.b2 z.m2 z.z2,.slice z.b3 z.m3 z.z3,.slice z.b4 z.m4 z.z4,.bool z.br,.int .i64 z.ln] 49);have HT8:Hid (TabIs f M (w6.alloc (.cells #[.int .i64 z.k,.slice z.a1 z.n1 z.y1,.slice z.a2 z.n2 z.y2,.string z.s1,.string z.s2,.string z.s3,.string z.s4,.slice z.b1 z.m1 z.z1,.slice z.b2 z.m2 z.z2,.slice z.b3 z.m3 z.z3,.slice z.b4 z.m4 z.z4,.bool z.br,.int .i64 z.ln] 49)) w.heap.size (delT T s)):=(HT7.out.below k6).below k7;have K9:Below w.heap.size w (w6.alloc (.cells #[.int .i64 z.k,.slice z.a1 z.n1 z.y1,.slice z.a2 z.n2 z.y2,.string z.s1,.string z.s2,.string z.s3,.string z.s4,.slice z.b1 z.m1 z.z1,.slice z.b2 z.m2 z.z2,.slice z.b3 z.m3 z.z3,.slice z.b4 z.m4 z.z4,.bool z.br,.int .i64 z.ln] 49)):=K8.trans (k7.mono K8.size);clear k6 k7 K8 K7 HT7
      go_wp2_with fail
      generalize w6.alloc (.cells #[.int .i64 z.k,.slice z.a1 z.n1 z.y1,.slice z.a2 z.n2 z.y2,.string z.s1,.string z.s2,.string z.s3,.string z.s4,.slice z.b1 z.m1 z.z1,.slice z.b2 z.m2 z.z2,.slice z.b3 z.m3 z.z3,.slice z.b4 z.m4 z.z4,.bool z.br,.int .i64 z.ln] 49)=u2 at *;refine (live11_ok u2).mono ?_;rintro e w7 ⟨rfl,k8⟩;have HT9:Hid (TabIs f M w7 w.heap.size (delT T s)):=HT8.out.below k8;have K10:Below w.heap.size w w7:=K9.trans (k8.mono K9.size);clear k8 K9 HT8
      cases H with
      | true=>
       obtain rfl:N=1:=by have:=HNN.out;simpa using this.symm
       clear HNN
       go_wp2_with fail
       refine (tClass_any s HT9.out).mono ?_;rintro e w8 ⟨rfl,k9⟩;rw [HFR.out.2.1];have HT10:Hid (TabIs f M w8 w.heap.size (delT T s)):=HT9.out.below k9;have K11:Below w.heap.size w w8:=K10.trans (k9.mono K10.size);have HT11:Hid (TabIs f M (w8.alloc (.cells #[.string s] 9)) w.heap.size (delT T s)):=HT10.out.below (below_alloc w8 _);clear k9 K10
       go_wp2_with fail
       refine (tErase_any HT11.out (rdT_one HT10.out.fresh s)).mono ?_;rintro e w9 ⟨rfl,_,kp9⟩;rw [HFR.out.2.2];have K12:Hid (Below w.heap.size w w9):=(K11.trans ((below_alloc w8 _).mono K11.size)).trans (KpM.low HT11.out kp9);clear kp9 K11;go_wp2
       go_ret
       exact ⟨rfl,K12.out⟩
      | false=>
       obtain rfl:N=0:=by have:=HNN.out;simpa using this.symm
       clear HNN
       go_wp2_with fail
       refine (tClass_any s HT9.out).mono ?_;rintro e w8 ⟨rfl,k9⟩;rw [HFR.out.2.1];have HT10:Hid (TabIs f M w8 w.heap.size (delT T s)):=HT9.out.below k9;have K11:Below w.heap.size w w8:=K10.trans (k9.mono K10.size);have HT11:Hid (TabIs f M (w8.alloc (.cells #[.string s] 9)) w.heap.size (delT T s)):=HT10.out.below (below_alloc w8 _);clear k9 K10
       go_wp2_with fail
       refine (tErase_any HT11.out (rdT_one HT10.out.fresh s)).mono ?_;rintro e w9 ⟨rfl,_,kp9⟩;rw [HFR.out.2.2];have K12:Hid (Below w.heap.size w w9):=(K11.trans ((below_alloc w8 _).mono K11.size)).trans (KpM.low HT11.out kp9);clear kp9 K11;go_wp2
       go_ret
       exact ⟨rfl,K12.out⟩
    · have i1:(i:Int)<(L.length:Int):=by omega
      have i2:¬ (i:Int)<60:=by omega
      clear hw hw2
      go_wp2_with fail
      refine (tGet_any s HT.out).mono ?_;rintro e w4 ⟨y,rfl,_,k4⟩;have HN:Hid ((eraN T [s]:Int)=if hasB s (curL T s)=true then 1 else 0):=by
       unfold Hid;rw [eraN]
       cases hasB s (curL T s) <;> rfl
      generalize hasB s (curL T s)=H at *;have K4:Below w.heap.size w w4:=kr.trans (k4.mono kr.size);have k5:=below_alloc w4 (.cells #[.int .i64 y.k,.slice y.a1 y.n1 y.y1,.slice y.a2 y.n2 y.y2,.string y.s1,.string y.s2,.string y.s3,.string y.s4,.slice y.b1 y.m1 y.z1,.slice y.b2 y.m2 y.z2,.slice y.b3 y.m3 y.z3,.slice y.b4 y.m4 y.z4,.bool y.br,.int .i64 y.ln] 49);have HT5:Hid (TabIs f M (w4.alloc (.cells #[.int .i64 y.k,.slice y.a1 y.n1 y.y1,.slice y.a2 y.n2 y.y2,.string y.s1,.string y.s2,.string y.s3,.string y.s4,.slice y.b1 y.m1 y.z1,.slice y.b2 y.m2 y.z2,.slice y.b3 y.m3 y.z3,.slice y.b4 y.m4 y.z4,.bool y.br,.int .i64 y.ln] 49)) w.heap.size T):=(HT.out.below k4).below k5;have K5:Below w.heap.size w (w4.alloc (.cells #[.int .i64 y.k,.slice y.a1 y.n1 y.y1,.slice y.a2 y.n2 y.y2,.string y.s1,.string y.s2,.string y.s3,.string y.s4,.slice y.b1 y.m1 y.z1,.slice y.b2 y.m2 y.z2,.slice y.b3 y.m3 y.z3,.slice y.b4 y.m4 y.z4,.bool y.br,.int .i64 y.ln] 49)):=K4.trans (k5.mono K4.size)
      go_wp2_with fail
      have es:w4.heap.size+1=(w4.alloc (.cells #[.int .i64 y.k,.slice y.a1 y.n1 y.y1,.slice y.a2 y.n2 y.y2,.string y.s1,.string y.s2,.string y.s3,.string y.s4,.slice y.b1 y.m1 y.z1,.slice y.b2 y.m2 y.z2,.slice y.b3 y.m3 y.z3,.slice y.b4 y.m4 y.z4,.bool y.br,.int .i64 y.ln] 49)).heap.size:=by simp
      rw [es];generalize w4.alloc (.cells #[.int .i64 y.k,.slice y.a1 y.n1 y.y1,.slice y.a2 y.n2 y.y2,.string y.s1,.string y.s2,.string y.s3,.string y.s4,.slice y.b1 y.m1 y.z1,.slice y.b2 y.m2 y.z2,.slice y.b3 y.m3 y.z3,.slice y.b4 y.m4 y.z4,.bool y.br,.int .i64 y.ln] 49)=u at *;clear es;have HT6:Hid (TabIs f M (u.alloc (.cells #[.string s] 9)) w.heap.size T):=HT5.out.below (below_alloc u _);refine (tErase_any HT6.out (rdT_one HT5.out.fresh s)).mono ?_;rintro e w5 ⟨rfl,h5,kp5⟩;rw [HN.out];obtain ⟨N,hN⟩:∃ N:Int,(if H=true then (1:Int) else 0)=N:=⟨_,rfl⟩;rw [hN];have HNN:Hid ((if H=true then (1:Int) else 0)=N):=hN;clear hN;have HT7:Hid (TabIs f M w5 w.heap.size (delT T s)):=h5;have K7:Below w.heap.size w w5:=(K5.trans ((below_alloc u _).mono K5.size)).trans (KpM.low HT6.out kp5);clear h5 kp5 HN HT6 HT5 K5 k4 k5 K4
      go_wp2_with fail
      refine (tGet_any s HT7.out).mono ?_;rintro e w6 ⟨z,rfl,_,k6⟩;rw [HFR.out.1];have K8:Below w.heap.size w w6:=K7.trans (k6.mono K7.size);have k7:=below_alloc w6 (.cells #[.int .i64 z.k,.slice z.a1 z.n1 z.y1,.slice z.a2 z.n2 z.y2,.string z.s1,.string z.s2,.string z.s3,.string z.s4,.slice z.b1 z.m1 z.z1,.slice z.b2 z.m2 z.z2,.slice z.b3 z.m3 z.z3,.slice z.b4 z.m4 z.z4,.bool z.br,.int .i64 z.ln] 49);have HT8:Hid (TabIs f M (w6.alloc (.cells #[.int .i64 z.k,.slice z.a1 z.n1 z.y1,.slice z.a2 z.n2 z.y2,.string z.s1,.string z.s2,.string z.s3,.string z.s4,.slice z.b1 z.m1 z.z1,.slice z.b2 z.m2 z.z2,.slice z.b3 z.m3 z.z3,.slice z.b4 z.m4 z.z4,.bool z.br,.int .i64 z.ln] 49)) w.heap.size (delT T s)):=(HT7.out.below k6).below k7;have K9:Below w.heap.size w (w6.alloc (.cells #[.int .i64 z.k,.slice z.a1 z.n1 z.y1,.slice z.a2 z.n2 z.y2,.string z.s1,.string z.s2,.string z.s3,.string z.s4,.slice z.b1 z.m1 z.z1,.slice z.b2 z.m2 z.z2,.slice z.b3 z.m3 z.z3,.slice z.b4 z.m4 z.z4,.bool z.br,.int .i64 z.ln] 49)):=K8.trans (k7.mono K8.size);clear k6 k7 K8 K7 HT7
      go_wp2_with fail
      generalize w6.alloc (.cells #[.int .i64 z.k,.slice z.a1 z.n1 z.y1,.slice z.a2 z.n2 z.y2,.string z.s1,.string z.s2,.string z.s3,.string z.s4,.slice z.b1 z.m1 z.z1,.slice z.b2 z.m2 z.z2,.slice z.b3 z.m3 z.z3,.slice z.b4 z.m4 z.z4,.bool z.br,.int .i64 z.ln] 49)=u2 at *;refine (live11_ok u2).mono ?_;rintro e w7 ⟨rfl,k8⟩;have HT9:Hid (TabIs f M w7 w.heap.size (delT T s)):=HT8.out.below k8;have K10:Below w.heap.size w w7:=K9.trans (k8.mono K9.size);clear k8 K9 HT8
      cases H with
      | true=>
       obtain rfl:N=1:=by have:=HNN.out;simpa using this.symm
       clear HNN
       go_wp2_with fail
       refine (tClass_any s HT9.out).mono ?_;rintro e w8 ⟨rfl,k9⟩;rw [HFR.out.2.1];have HT10:Hid (TabIs f M w8 w.heap.size (delT T s)):=HT9.out.below k9;have K11:Below w.heap.size w w8:=K10.trans (k9.mono K10.size);have HT11:Hid (TabIs f M (w8.alloc (.cells #[.string s] 9)) w.heap.size (delT T s)):=HT10.out.below (below_alloc w8 _);clear k9 K10
       go_wp2_with fail
       refine (tErase_any HT11.out (rdT_one HT10.out.fresh s)).mono ?_;rintro e w9 ⟨rfl,_,kp9⟩;rw [HFR.out.2.2];have K12:Hid (Below w.heap.size w w9):=(K11.trans ((below_alloc w8 _).mono K11.size)).trans (KpM.low HT11.out kp9);clear kp9 K11;go_wp2
       go_ret
       exact ⟨rfl,K12.out⟩
      | false=>
       obtain rfl:N=0:=by have:=HNN.out;simpa using this.symm
       clear HNN
       go_wp2_with fail
       refine (tClass_any s HT9.out).mono ?_;rintro e w8 ⟨rfl,k9⟩;rw [HFR.out.2.1];have HT10:Hid (TabIs f M w8 w.heap.size (delT T s)):=HT9.out.below k9;have K11:Below w.heap.size w w8:=K10.trans (k9.mono K10.size);have HT11:Hid (TabIs f M (w8.alloc (.cells #[.string s] 9)) w.heap.size (delT T s)):=HT10.out.below (below_alloc w8 _);clear k9 K10
       go_wp2_with fail
       refine (tErase_any HT11.out (rdT_one HT10.out.fresh s)).mono ?_;rintro e w9 ⟨rfl,_,kp9⟩;rw [HFR.out.2.2];have K12:Hid (Below w.heap.size w w9):=(K11.trans ((below_alloc w8 _).mono K11.size)).trans (KpM.low HT11.out kp9);clear kp9 K11;go_wp2
       go_ret
       exact ⟨rfl,K12.out⟩
end Go.Proofs.YtimfnalpmmkndaaGreatDoor
