/- shape.Dyadic at drop, of a vector. -/
import Derived.Test.YtheaeggecpfcbaaGreatI4
import Derived.Test.YtheaeggecpfcbaaGreatHA
set_option maxRecDepth 100000
set_option maxHeartbeats 1600000
set_option linter.unusedVariables false
set_option linter.unusedSimpArgs false
namespace Go.Proofs.YtheaeggecpfcbaaGreat
open Go.RowKit
section
variable {f:Nat} {D:Nat→Prop} {w:World} {x1 x2 a1 a2:Option Addr} {y1 y2 b1 b2:Nat} {t:Tr} {n L:Nat}
theorem dyadic_drop {eb:Bool} {e1 e2:Option Addr} {m1 c1 m2 c2:Nat} {pp:Int} (hD:∀ g,D g→g<w.heap.size) (hn:n≤4000) (hS:ArV (f+1) D w (.slice a1 0 b1) (.slice a2 1 b2) (arrT [] [wholeT (n:Int)])) (hr:(measF 16 (arrT [] [wholeT (n:Int)])).isSome=true)
    (hA:ArV (f+1) D w (.slice x1 1 y1) (.slice x2 t.kids.length y2) t) (hm:(measF 16 t).isSome=true) (hns:t.ns=[(L:Int)]) :
    Calls Tryz.prog 11 #[.agg #[.int .i64 1,.bool eb,.slice e1 m1 c1,.slice e2 m2 c2,.int .i64 pp],.int .i32 8595,.agg #[.slice a1 0 b1,.slice a2 1 b2],.agg #[.slice x1 1 y1,.slice x2 t.kids.length y2]] w fun e w'=>∃ z1 u1 z2 u2,e=.returned (.tuple #[.agg #[.slice z1 1 u1,.slice z2 (dropT n t).kids.length u2],.int .i64 0])∧ArV (f+1) (Fr w.heap.size w'.heap.size) w' (.slice z1 1 u1) (.slice z2 (dropT n t).kids.length u2) (dropT n t)∧Below w.heap.size w w':=by
 have HD:Hid (∀ g,D g→g<w.heap.size):=hD;have HA:Hid (ArV (f+1) D w (.slice x1 1 y1) (.slice x2 t.kids.length y2) t):=hA;have HM:Hid ((measF 16 t).isSome=true):=hm;have HS:Hid (ArV (f+1) D w (.slice a1 0 b1) (.slice a2 1 b2) (arrT [] [wholeT (n:Int)])):=hS;have HRT:Hid ((measF 16 (arrT [] [wholeT (n:Int)])).isSome=true):=hr;have HNS:Hid (t.ns=[(L:Int)]):=hns;obtain ⟨kn,hkn⟩:∃ kn,t.kids.length=kn:=⟨_,rfl⟩;have HKN:Hid (t.kids.length=kn):=hkn;rw [hkn] at hA HA ⊢;clear hkn;have kE:=below_alloc w (.cells #[.int .i64 1,.bool eb,.slice e1 m1 c1,.slice e2 m2 c2,.int .i64 pp] 36);have E0:=boxA_new w #[.int .i64 1,.bool eb,.slice e1 m1 c1,.slice e2 m2 c2,.int .i64 pp] 36;obtain ⟨va,hva⟩:∃ va,w.alloc (.cells #[.int .i64 1,.bool eb,.slice e1 m1 c1,.slice e2 m2 c2,.int .i64 pp] 36)=va:=⟨_,rfl⟩;have sa:va.heap.size=w.heap.size+1:=by rw [← hva,World.size_alloc]
 rw [hva] at kE E0;have kS:=below_alloc va (.cells #[.slice a1 0 b1,.slice a2 1 b2] 25);have S0:=boxA_new va #[.slice a1 0 b1,.slice a2 1 b2] 25;obtain ⟨vb,hvb⟩:∃ vb,va.alloc (.cells #[.slice a1 0 b1,.slice a2 1 b2] 25)=vb:=⟨_,rfl⟩;have sb:vb.heap.size=w.heap.size+1+1:=by rw [← hvb,World.size_alloc,sa]
 rw [hvb] at kS S0;have kX:=below_alloc vb (.cells #[.slice x1 1 y1,.slice x2 kn y2] 25);have X0:=boxA_new vb #[.slice x1 1 y1,.slice x2 kn y2] 25;obtain ⟨vc,hvc⟩:∃ vc,vb.alloc (.cells #[.slice x1 1 y1,.slice x2 kn y2] 25)=vc:=⟨_,rfl⟩;have sc:vc.heap.size=w.heap.size+1+1+1:=by rw [← hvc,World.size_alloc,sb]
 rw [hvc] at kX X0;have kR:=below_alloc vc (.cells #[.slice none 0 0,.slice none 0 0] 25);have R0:=boxA_new vc #[.slice none 0 0,.slice none 0 0] 25;obtain ⟨v,hv⟩:∃ v,vc.alloc (.cells #[.slice none 0 0,.slice none 0 0] 25)=v:=⟨_,rfl⟩;have sv:v.heap.size=w.heap.size+1+1+1+1:=by rw [← hv,World.size_alloc,sc]
 rw [hv] at kR R0;rw [sa] at S0;rw [sb] at X0;rw [sc] at R0;have E1:=((E0.below kS (by omega)).below kX (by omega)).below kR (by omega);have S1:=(S0.below kX (by omega)).below kR (by omega);have X1:=X0.below kR (by omega);have kv:Below w.heap.size w v:=((kE.trans (kS.mono (by omega))).trans (kX.mono (by omega))).trans (kR.mono (by omega));have q0:=E1.cell 0 rfl;clear hD hA hm hS hr hns kE kS kX kR E0 S0 X0;go_enter Tryz.func11,Tryz.ntmps11;have C1:=shOfTwo_any 1 v;have hnf:=eq_nil6
 go_wp2_with fail
 refine C1.mono ?_;rintro e w1 ⟨rfl,hT,q1⟩;have hget:(Instr.lookup 77 (.map (some (v.heap.size+1))) (.int .i32 8595) false).run Tryz.prog w1=.ok (.func (.func 59) #[] #[]) w1:=MapIs.get (k:=8595) Tryz.underlying77 Tryz.underlying21 (zero_dyad6 w1) hT.tab;rw [sv] at hget;have s1:=q1.size;have hs1:v.heap.size+3<w1.heap.size:=by have:=hT.size;omega
 have E2:=E1.below q1 (by omega);have S2:=S1.below q1 (by omega);have X2:=X1.below q1 (by omega);have R2:=R0.below q1 (by omega);have kw1:=kv.trans (q1.mono (by omega));have kl:=below_alloc w1 (.cells #[.slice a1 0 b1,.slice a2 1 b2,.slice x1 1 y1,.slice x2 kn y2] 25);have BL:=boxA_new w1 #[.slice a1 0 b1,.slice a2 1 b2,.slice x1 1 y1,.slice x2 kn y2] 25;have sl:(w1.alloc (.cells #[.slice a1 0 b1,.slice a2 1 b2,.slice x1 1 y1,.slice x2 kn y2] 25)).heap.size=w1.heap.size+1:=by simp
 have kw2:=kw1.trans (kl.mono (by omega));have CR:=refused_ok (w:=w1.alloc (.cells #[.slice a1 0 b1,.slice a2 1 b2,.slice x1 1 y1,.slice x2 kn y2] 25)) (D:=fun g=>D g∨g=w1.heap.size) (f:=f+1) (ts:=[arrT [] [wholeT (n:Int)],t]) (a:=some ⟨w1.heap.size,0,none⟩) (c:=2) (eb:=eb) (e1:=e1) (e2:=e2) (m1:=m1) (k1:=c1) (m2:=m2) (k2:=c2) (pp:=pp) (fun g hg=>by
  rcases hg with hg | hg
  · have:=HD.out g hg
    omega
  · omega) (fun u hu=>by
  simp at hu;rcases hu with rfl | rfl
  · exact HRT.out
  · exact HM.out) ⟨_,_,rfl,by simp,by omega,(fun h=>by cases h),Or.inr ⟨w1.heap.size,0,rfl,Or.inr rfl,fun j hj=>by
  match j,hj with
  | 0,_=>exact ⟨_,_,_,_,_,_,BL.cell 0 rfl,BL.cell 1 rfl,ArV.imp (fun g hg=>Or.inl hg) (Agree.of kw2 HD.out) (f+1) (f+1) _ _ (arrT [] [wholeT (n:Int)]) (Nat.le_refl _) HS.out⟩
  | 1,_=>exact ⟨_,_,_,_,_,_,BL.cell 2 rfl,BL.cell 3 rfl,ArV.imp (fun g hg=>Or.inl hg) (Agree.of kw2 HD.out) (f+1) (f+1) _ _ t (Nat.le_refl _) HA.out⟩⟩⟩
 have p0:=E2.cell 0 rfl;have p1:=E2.cell 1 rfl;have p2:=E2.cell 2 rfl;have p3:=E2.cell 3 rfl;have p4:=E2.cell 4 rfl;have u0:=S2.cell 0 rfl;have u1:=S2.cell 1 rfl;have o0:=X2.cell 0 rfl;have o1:=X2.cell 1 rfl;clear q0 C1 E1 S1 X1 R0 hT
 go_wp2_with fail
 refine CR.mono ?_;rintro e w3 ⟨rfl,q3⟩;have s3:=q3.size;have S3:=(S2.below kl (by omega)).below q3 (by omega);have X3:=(X2.below kl (by omega)).below q3 (by omega);have R3:=(R2.below kl (by omega)).below q3 (by omega);have kw3:=kw2.trans (q3.mono (by omega));clear CR p0 p1 p2 p3 p4 u0 u1 o0 o1 E2 S2 X2 hget;have u0:=S3.cell 0 rfl;have u1:=S3.cell 1 rfl;have o0:=X3.cell 0 rfl;have o1:=X3.cell 1 rfl;have CP:=dropped_vec (w:=w3) (n:=n) (L:=L) (fun g hg=>by have:=HD.out g hg;omega) hn (HS.out.agree (Agree.of kw3 HD.out)) HRT.out (by rw [HKN.out];exact HA.out.agree (Agree.of kw3 HD.out)) HM.out HNS.out;rw [HKN.out] at CP;obtain ⟨m,hmm⟩:∃ m,(dropT n t).kids.length=m:=⟨_,rfl⟩;have HMM:Hid ((dropT n t).kids.length=m):=hmm;rw [hmm] at CP;clear hmm
 go_wp2_with fail
 refine CP.mono ?_;rintro e w7 ⟨p1,u1,p2,u2,rfl,hv,k7⟩;have HV:Hid (ArV (f+1) (Fr w3.heap.size w7.heap.size) w7 (.slice p1 1 u1) (.slice p2 m u2) (dropT n t)):=hv;have s7:=k7.size;have R7:=R3.below k7 (by omega);have kz:=kw3.trans (k7.mono (by omega));clear CP hv u0 o0 o1;have r0:=R7.cell 0 rfl;have r1:=R7.cell 1 rfl;have f0:=R7.frozen 0;have f1:=R7.frozen 1;have Rd:=R7.set2 (.slice p1 1 u1) (.slice p2 m u2);have w0':=Rd.cell 0 rfl;have w1':=Rd.cell 1 rfl;go_wp2
 try simp only [Exit.inBlock,Exit.then]
 refine bodyPost_ret (v:=.tuple #[.agg #[.slice p1 1 u1,.slice p2 m u2],.int .i64 0]) ?_ rfl ?_
 · simp [results,Tryz.results11,go_sem,w0',w1']
 rw [HMM.out];refine ⟨p1,u1,p2,u2,rfl,?_,(kz.setCell (p:=⟨w.heap.size+1+1+1,0,none⟩) (by show w.heap.size≤w.heap.size+1+1+1;omega) _).setCell (p:=⟨w.heap.size+1+1+1,1,none⟩) (by show w.heap.size≤w.heap.size+1+1+1;omega) _⟩;refine ArV.imp ?_ ?_ (f+1) (f+1) _ _ _ (Nat.le_refl _) HV.out
 · rintro g' ⟨h1,h2⟩
   exact ⟨by omega,by simp [World.setCell];exact h2⟩
 · rintro g' ⟨h1,h2⟩
   have hne:¬ w.heap.size+1+1+1=g':=by omega
   simp [World.setCell,Array.getElem?_modify,hne]
end
theorem dropT_some {t:Tr} {n L:Nat} (hm:(measF 16 t).isSome=true) (hns:t.ns=[(L:Int)]) (h:n<L):dropT n t=arrT [((L - n:Nat):Int)] (t.kids.drop n):=by
 obtain ⟨h4,hs,hk,hr⟩:=vec_len hns hm;have hkl:t.kids.length=L:=by omega
 have hdk:(t.kids.drop n).length=L - n:=by rw [List.length_drop,hkl]
 unfold dropT;rw [if_neg,hdk];rintro (h' | h')
 · rw [h'] at hdk;simp at hdk;omega
 · rw [hs] at h';have h':(L:Int)=0:=h';omega
theorem dropT_none {t:Tr} {n L:Nat} (hm:(measF 16 t).isSome=true) (hns:t.ns=[(L:Int)]) (h:L≤n):dropT n t=arrT [0] [tyI (t.kids.getD 0 tr0)]:=by
 obtain ⟨h4,hs,hk,hr⟩:=vec_len hns hm;unfold dropT;rw [if_pos];by_cases h0:L=0
 · right;rw [hs,h0];rfl
 · left;exact List.drop_of_length_le (by omega)
theorem dropT_ns {t:Tr} {n L:Nat} (hm:(measF 16 t).isSome=true) (hns:t.ns=[(L:Int)]):(dropT n t).ns=[((L - n:Nat):Int)]:=by
 by_cases h:n<L
 · rw [dropT_some hm hns h];rfl
 · rw [dropT_none hm hns (by omega),show L - n=0 by omega];rfl
theorem dropT_right {t:Tr} {n L:Nat} (hm:(measF 16 t).isSome=true) (hns:t.ns=[(L:Int)]):(measF 16 (dropT n t)).isSome=true:=by
 obtain ⟨h4,hs,hk,hr⟩:=vec_len hns hm;by_cases h:n<L
 · rw [dropT_some hm hns h]
   obtain ⟨f1,f2,f3⟩:=fit_drop n hr;refine right_of_make f1 f2 f3 (by rw [size_one (by omega) (by omega)]) ?_;rw [size_one (by omega) (by omega),List.length_drop];omega
 · rw [dropT_none hm hns (by omega)]
   have hmem:t.kids.getD 0 tr0∈t.kids:=getD_memI (by omega);obtain ⟨f1,f2,f3⟩:=fit_one hm hmem;have hc:cyc (0,0) (msOf [tyI (t.kids.getD 0 tr0)]) 1=msOf [tyI (t.kids.getD 0 tr0)]:=cyc_self (0,0) (msOf [tyI (t.kids.getD 0 tr0)]);rw [hc] at f2 f3;exact right_of_make f1 f2 f3 (by decide) (by rw [show (sizeF [0]).1=0 from by decide];rfl)
theorem dropT_twice {t:Tr} {n m L:Nat} (hm:(measF 16 t).isSome=true) (hns:t.ns=[(L:Int)]) (h:n+m<L):dropT m (dropT n t)=dropT (n+m) t:=by
 rw [dropT_some (L:=L - n) (dropT_right hm hns) (dropT_ns hm hns) (by omega),dropT_some hm hns h,dropT_some hm hns (show n<L by omega)];show arrT [((L - n - m:Nat):Int)] ((t.kids.drop n).drop m)=_;rw [List.drop_drop,Nat.sub_sub]
end Go.Proofs.YtheaeggecpfcbaaGreat
