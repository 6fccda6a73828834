/- shape.wholes of a row of whole numbers, shape.fewAxes; shape.reshaped. -/
import Derived.Test.YtheaeggecpfcbaaGreatHA
import Derived.Test.YtheaeggecpfcbaaGreatKD
import Derived.Test.YtheaeggecpfcbaaGreatHF
import Derived.Test.YtheaeggecpfcbaaGreatHG
import Derived.Test.YtheaeggecpfcbaaGreatHC
import Derived.Test.YtheaeggecpfcbaaGreatKE
import Derived.Test.YtheaeggecpfcbaaGreatK7
set_option maxRecDepth 100000
set_option maxHeartbeats 3200000
set_option linter.unusedVariables false
set_option linter.unusedSimpArgs false
namespace Go.Proofs.YtheaeggecpfcbaaGreat
open Go.RowKit
theorem few_ok (n:Int) (h:n≤8) (w:World):Calls Tryz.prog 91 #[.int .i64 n] w fun e w'=>e=.returned (.int .i64 0)∧w'=w:=by
 have h1:decide (n > 8)=false:=decide_eq_false (by omega);have h2:decide (8<n)=false:=decide_eq_false (by omega);have h3:¬ 8<n:=by omega
 go_enter Tryz.func91,Tryz.ntmps91;go_wp2
 go_ret
 exact ⟨rfl,rfl⟩
/-- A row of whole numbers. -/
def vecN (l:List Int):Tr:=vecT (wholeT 0) (l.map wholeT)
section
variable {D:Nat→Prop} {f:Nat} {w:World} {x1 x2:Option Addr} {y1 y2:Nat} {l:List Int}
theorem vecN_ns (h:l.length≤4096):(vecN l).ns=[(l.length:Int)]:=by
 show [((((l.map wholeT).take 4096).length:Nat):Int)]=_;rw [List.take_of_length_le (by rw [List.length_map];exact h),List.length_map]
theorem vecN_kids (h:l.length≤4096) (h0:0<l.length):(vecN l).kids=l.map wholeT:=by
 show vecK _ _=_;unfold vecK;rw [if_neg (by rw [List.length_map];omega),List.take_of_length_le (by rw [List.length_map];exact h)]
theorem vecN_right (hin:∀ x∈l,-9223372036854775808≤x∧x≤9223372036854775807):(measF 16 (vecN l)).isSome=true:=by
 have hall:∀ t∈l.map wholeT,∀ M,measI M t=some (0,0):=fun t ht M=>by
  obtain ⟨q,hq,rfl⟩:=List.mem_map.1 ht;exact whole_meas M (hin q hq).1 (by have:=(hin q hq).2;omega)
 unfold vecN;rw [vec_meas (L:=15) (whole_meas _ (by omega) (by omega)) (fun t ht=>hall t ht _)];rfl
theorem wholes_few (hD:∀ g,D g→g<w.heap.size) (hin:∀ x∈l,-9223372036854775808≤x∧x≤9223372036854775807) (h0:0<l.length) (h8:l.length≤8) (h:ArV (f+1) D w (.slice x1 1 y1) (.slice x2 l.length y2) (vecN l)) :
    Calls Tryz.prog 90 #[.agg #[.slice x1 1 y1,.slice x2 l.length y2],.func (.func 91) #[] #[]] w fun e w'=>∃ a c,e=.returned (.tuple #[.slice a l.length c,.int .i64 0])∧Hid (RdN (Fr w.heap.size w'.heap.size) w' (.slice a l.length c) l)∧Below w.heap.size w w':=by
 have HD:Hid (∀ g,D g→g<w.heap.size):=hD;have H:Hid (ArV (f+1) D w (.slice x1 1 y1) (.slice x2 l.length y2) (vecN l)):=h;have HIN:Hid (∀ x∈l,-9223372036854775808≤x∧x≤9223372036854775807):=hin;have HNS:Hid ((vecN l).ns=[(l.length:Int)]):=vecN_ns (by omega);have HTK:Hid ((l.take 4096)=l):=List.take_of_length_le (by omega);have k0:=below_alloc w (.cells #[.slice x1 1 y1,.slice x2 l.length y2] 25);have X0:=boxA_new w #[.slice x1 1 y1,.slice x2 l.length y2] 25;have s0:(w.alloc (.cells #[.slice x1 1 y1,.slice x2 l.length y2] 25)).heap.size=w.heap.size+1:=by simp
 have z0:=X0.cell 0 rfl;have z1:=X0.cell 1 rfl;have hsz:sizeF [(l.length:Int)]=((l.length:Int),0):=size_one (by omega) (by omega);clear hD h hin;go_enter Tryz.func90,Tryz.ntmps90
 go_wp2_with fail
 generalize hAA:w.alloc (.cells #[.slice x1 1 y1,.slice x2 l.length y2] 25)=v at *;clear hAA;have C1:=count6_any (w:=v) (sh:=[(l.length:Int)]) (x1:=x1) (y1:=y1) (x2:=x2) (n2:=l.length) (y2:=y2) (D:=D) (by have h1:=H.out.1;rw [HNS.out] at h1;exact h1.imp (fun _ h=>h) (Agree.of k0 HD.out)) (fun g hg=>by have:=HD.out g hg;omega);rw [hsz] at C1;simp only [List.length_singleton] at C1;clear hsz;refine C1.mono ?_;rintro e w1 ⟨rfl,q1⟩;clear C1 z0 z1;have s1:=q1.size;have kw1:=k0.trans (q1.mono (by omega));have X1:=X0.below q1 (by omega);have z0:=X1.cell 0 rfl;have z1:=X1.cell 1 rfl;have C2:=few_ok (l.length:Int) (by omega) w1;have C3:=toInts_vec (W:=w1) (l:=l) (fun g hg=>by have:=HD.out g hg;omega) HIN.out (H.out.agree (Agree.of kw1 HD.out));rw [HTK.out] at C3
 go_wp2_with fail
 refine C2.mono ?_;rintro e w1' ⟨rfl,hw⟩;obtain rfl:=hw.symm;clear C2
 go_wp2_with fail
 refine C3.mono ?_;rintro e w2 ⟨a,c,rfl,hr,q2⟩;have HR:Hid (RdN (Fr w1.heap.size w2.heap.size) w2 (.slice a l.length c) l):=hr;clear C3 hr;go_wp2
 go_ret2
 exact ⟨a,c,rfl,HR.out.imp (fun g hg=>⟨by have:=hg.1;omega,hg.2⟩) (fun _ _=>rfl),kw1.trans (q2.mono (by omega))⟩
end
section
variable {D:Nat→Prop} {f N:Nat} {w:World} {a1 a2 x1 x2:Option Addr} {b1 b2 y1 y2:Nat} {l:List Int} {t:Tr}
theorem reshaped_ok (hD:∀ g,D g→g<w.heap.size) (hin:∀ x∈l,-9223372036854775808≤x∧x≤9223372036854775807) (h0:0<l.length) (h8:l.length≤8) (hS:ArV (f+1) D w (.slice a1 1 b1) (.slice a2 l.length b2) (vecN l))
    (hA:ArV (f+1) D w (.slice x1 t.ns.length y1) (.slice x2 t.kids.length y2) t) (hm:(measF 16 t).isSome=true) (hc:(sizeF t.ns).1≠0) (hE:(sizeF l).2=0) (hN:(sizeF l).1=(N:Int)) (hN1:1≤N)
    (hdp:(togF (cyc (0,0) (msOf t.kids) N)).1≤16) (hcl:(togF (cyc (0,0) (msOf t.kids) N)).2≤16384) :
    Calls Tryz.prog 53 #[.agg #[.slice a1 1 b1,.slice a2 l.length b2],.agg #[.slice x1 t.ns.length y1,.slice x2 t.kids.length y2]] w fun e w'=>∃ z1 u1 z2 u2,e=.returned (.tuple #[.agg #[.slice z1 l.length u1,.slice z2 N u2],.int .i64 0])∧ArV (f+1) (Fr w.heap.size w'.heap.size) w' (.slice z1 l.length u1) (.slice z2 N u2) (arrT l (cyc tr0 t.kids N))∧Below w.heap.size w w':=by
 obtain ⟨L',hL',hr8,hE',hk,hk4,hallk⟩:=measF_some hm;obtain rfl:L'=15:=by omega
 have HD:Hid (∀ g,D g→g<w.heap.size):=hD;have HS:Hid (ArV (f+1) D w (.slice a1 1 b1) (.slice a2 l.length b2) (vecN l)):=hS;have HA:Hid (ArV (f+1) D w (.slice x1 t.ns.length y1) (.slice x2 t.kids.length y2) t):=hA;have HIN:Hid (∀ x∈l,-9223372036854775808≤x∧x≤9223372036854775807):=hin;have HNE:Hid ((sizeF l).2=0∧(sizeF l).1=(N:Int)):=⟨hE,hN⟩;have HTG:Hid ((togF (cyc (0,0) (msOf t.kids) N)).1≤16∧(togF (cyc (0,0) (msOf t.kids) N)).2≤16384):=⟨hdp,hcl⟩;have HALL:Hid (∀ s∈t.kids,(measI (measF 16) s).isSome=true):=fun s hs=>by
  have h1:=hallk s hs
  cases hq:measI (measF 15) s with
  | none=>rw [hq] at h1;cases h1
  | some q=>rw [measI_up (fun s r=>measF_up 15 s r) s q hq];rfl
 have HK1:Hid (0<t.kids.length∧t.kids.length≤4096):=⟨by omega,hk4⟩;have k0:=below_alloc w (.cells #[.slice a1 1 b1,.slice a2 l.length b2] 25);have S0:=boxA_new w #[.slice a1 1 b1,.slice a2 l.length b2] 25;have k1:=below_alloc (w.alloc (.cells #[.slice a1 1 b1,.slice a2 l.length b2] 25)) (.cells #[.slice x1 t.ns.length y1,.slice x2 t.kids.length y2] 25);have X0:=boxA_new (w.alloc (.cells #[.slice a1 1 b1,.slice a2 l.length b2] 25)) #[.slice x1 t.ns.length y1,.slice x2 t.kids.length y2] 25;have k2:=below_alloc ((w.alloc (.cells #[.slice a1 1 b1,.slice a2 l.length b2] 25)).alloc (.cells #[.slice x1 t.ns.length y1,.slice x2 t.kids.length y2] 25)) (.cells #[.slice none 0 0,.slice none 0 0] 25);have R0:=boxA_new ((w.alloc (.cells #[.slice a1 1 b1,.slice a2 l.length b2] 25)).alloc (.cells #[.slice x1 t.ns.length y1,.slice x2 t.kids.length y2] 25)) #[.slice none 0 0,.slice none 0 0] 25;have S1:=(S0.below k1 (by simp)).below k2 (by simp;omega);have X1:=X0.below k2 (by simp);have kv:Below w.heap.size w _:=(k0.trans (k1.mono (by simp))).trans (k2.mono (by simp;omega));have sv:(((w.alloc (.cells #[.slice a1 1 b1,.slice a2 l.length b2] 25)).alloc (.cells #[.slice x1 t.ns.length y1,.slice x2 t.kids.length y2] 25)).alloc (.cells #[.slice none 0 0,.slice none 0 0] 25)).heap.size=w.heap.size+1+1+1:=by simp
 rw [World.size_alloc] at X1;rw [World.size_alloc,World.size_alloc] at R0;have z0:=S1.cell 0 rfl;have z1:=S1.cell 1 rfl;clear hD hA hm hS hin hL' hallk hk hE' k0 k1 k2 X0 S0 hE hN hdp hcl hk4;go_enter Tryz.func53,Tryz.ntmps53
 go_wp2_with fail
 generalize hAA:((w.alloc (.cells #[.slice a1 1 b1,.slice a2 l.length b2] 25)).alloc (.cells #[.slice x1 t.ns.length y1,.slice x2 t.kids.length y2] 25)).alloc (.cells #[.slice none 0 0,.slice none 0 0] 25)=v at *;clear hAA;have C1:=wholes_few (w:=v) (fun g hg=>by have:=HD.out g hg;omega) HIN.out h0 h8 (HS.out.agree (Agree.of kv HD.out));refine C1.mono ?_;rintro e w1 ⟨a,c,rfl,hr,q1⟩;have HR:Hid (RdN (Fr v.heap.size w1.heap.size) w1 (.slice a l.length c) l):=hr.out;clear C1 hr z0 z1;have s1:=q1.size;have kw1:=kv.trans (q1.mono (by omega));have X2:=X1.below q1 (by omega);have R2:=R0.below q1 (by omega);have z0:=X2.cell 0 rfl;have z1:=X2.cell 1 rfl;have C2:=count6_any (w:=w1) (x2:=x2) (n2:=t.kids.length) (y2:=y2) (HA.out.1.imp (fun _ h=>h) (Agree.of kw1 HD.out)) (fun g hg=>by have:=HD.out g hg;omega);obtain ⟨cn,hcn⟩:∃ cn,(sizeF t.ns).1=cn:=⟨_,rfl⟩;rw [hcn] at C2 hc;have hd1:(cn==0)=false:=by rw [beq_eq_false_iff_ne];exact hc
 have hd2:decide (cn=0)=false:=decide_eq_false hc;clear hcn hc
 go_wp2_with fail
 refine C2.mono ?_;rintro e w2 ⟨rfl,q2⟩;clear C2 z0 z1;have s2:=q2.size;have kw2:=kw1.trans (q2.mono (by omega));have X3:=X2.below q2 (by omega);have R3:=R2.below q2 (by omega);have z1:=X3.cell 1 rfl;have CM:=make_ok (w:=w2) (f:=f) (D:=fun g=>D g∨(v.heap.size≤g∧g<w2.heap.size)) (sh:=l) (l:=t.kids) (N:=N) (x1:=a) (y1:=c) (a2:=x2) (c2:=y2) (HR.out.imp (fun g hg=>Or.inr ⟨hg.1,by have:=hg.2;omega⟩) (fun g hg=>q2.block g hg.2))
  ((ArV.imp (fun g hg=>Or.inl hg) (Agree.of kw2 HD.out) (f+1) (f+1) _ _ t (Nat.le_refl _) HA.out).2) (fun g hg=>by
   rcases hg with hg | hg
   · have:=HD.out g hg
     omega
   · exact hg.2) HK1.out.1 (by have:=HK1.out.2;omega) HNE.out.1 HNE.out.2 hN1 HALL.out HTG.out.1 HTG.out.2
 go_wp2_with fail
 refine CM.mono ?_;rintro e w7 ⟨p1,u1,p2,u2,rfl,hv,k7⟩;have HV:Hid (ArV (f+1) (Fr w2.heap.size w7.heap.size) w7 (.slice p1 l.length u1) (.slice p2 N u2) (arrT l (cyc tr0 t.kids N))):=hv;have s7:=k7.size;have R7:=R3.below k7 (by omega);have kz:=kw2.trans (k7.mono (by omega));clear CM hv z1;have r0:=R7.cell 0 rfl;have r1:=R7.cell 1 rfl;have f0:=R7.frozen 0;have f1:=R7.frozen 1;have Rd:=R7.set2 (.slice p1 l.length u1) (.slice p2 N u2);have w0':=Rd.cell 0 rfl;have w1':=Rd.cell 1 rfl;go_wp2
 try simp only [Exit.inBlock,Exit.then]
 refine bodyPost_ret (v:=.tuple #[.agg #[.slice p1 l.length u1,.slice p2 N u2],.int .i64 0]) ?_ rfl ?_
 · simp [results,Tryz.results53,go_sem,w0',w1']
 refine ⟨p1,u1,p2,u2,rfl,?_,(kz.setCell (p:=⟨w.heap.size+1+1,0,none⟩) (by show w.heap.size≤w.heap.size+1+1;omega) _).setCell (p:=⟨w.heap.size+1+1,1,none⟩) (by show w.heap.size≤w.heap.size+1+1;omega) _⟩;refine ArV.imp ?_ ?_ (f+1) (f+1) _ _ _ (Nat.le_refl _) HV.out
 · rintro g' ⟨h1,h2⟩
   exact ⟨by omega,by simp [World.setCell];exact h2⟩
 · rintro g' ⟨h1,h2⟩
   have hne:¬ w.heap.size+1+1=g':=by omega
   simp [World.setCell,Array.getElem?_modify,hne]
end
section
variable {f N:Nat} {D:Nat→Prop} {w:World} {x1 x2 a1 a2:Option Addr} {y1 y2 b1 b2:Nat} {t:Tr} {l:List Int}
theorem dyadic_resh {eb:Bool} {e1 e2:Option Addr} {m1 c1 m2 c2:Nat} {pp:Int} (hD:∀ g,D g→g<w.heap.size) (hin:∀ x∈l,-9223372036854775808≤x∧x≤9223372036854775807) (h0:0<l.length) (h8:l.length≤8) (hS:ArV (f+1) D w (.slice a1 1 b1) (.slice a2 l.length b2) (vecN l))
    (hA:ArV (f+1) D w (.slice x1 t.ns.length y1) (.slice x2 t.kids.length y2) t) (hm:(measF 16 t).isSome=true) (hc:(sizeF t.ns).1≠0) (hE:(sizeF l).2=0) (hN:(sizeF l).1=(N:Int)) (hN1:1≤N)
    (hdp:(togF (cyc (0,0) (msOf t.kids) N)).1≤16) (hcl:(togF (cyc (0,0) (msOf t.kids) N)).2≤16384) :
    Calls Tryz.prog 11 #[.agg #[.int .i64 1,.bool eb,.slice e1 m1 c1,.slice e2 m2 c2,.int .i64 pp],.int .i32 9076,.agg #[.slice a1 1 b1,.slice a2 l.length b2],.agg #[.slice x1 t.ns.length y1,.slice x2 t.kids.length y2]] w fun e w'=>∃ z1 u1 z2 u2,e=.returned (.tuple #[.agg #[.slice z1 l.length u1,.slice z2 N u2],.int .i64 0])∧ArV (f+1) (Fr w.heap.size w'.heap.size) w' (.slice z1 l.length u1) (.slice z2 N u2) (arrT l (cyc tr0 t.kids N))∧Below w.heap.size w w':=by
 have HD:Hid (∀ g,D g→g<w.heap.size):=hD;have HA:Hid (ArV (f+1) D w (.slice x1 t.ns.length y1) (.slice x2 t.kids.length y2) t):=hA;have HM:Hid ((measF 16 t).isSome=true):=hm;have HS:Hid (ArV (f+1) D w (.slice a1 1 b1) (.slice a2 l.length b2) (vecN l)):=hS;have HIN:Hid (∀ x∈l,-9223372036854775808≤x∧x≤9223372036854775807):=hin;have HC:Hid ((sizeF t.ns).1≠0):=hc;have HNE:Hid ((sizeF l).2=0∧(sizeF l).1=(N:Int)):=⟨hE,hN⟩;have HTG:Hid ((togF (cyc (0,0) (msOf t.kids) N)).1≤16∧(togF (cyc (0,0) (msOf t.kids) N)).2≤16384):=⟨hdp,hcl⟩;have kE:=below_alloc w (.cells #[.int .i64 1,.bool eb,.slice e1 m1 c1,.slice e2 m2 c2,.int .i64 pp] 36);have E0:=boxA_new w #[.int .i64 1,.bool eb,.slice e1 m1 c1,.slice e2 m2 c2,.int .i64 pp] 36;obtain ⟨va,hva⟩:∃ va,w.alloc (.cells #[.int .i64 1,.bool eb,.slice e1 m1 c1,.slice e2 m2 c2,.int .i64 pp] 36)=va:=⟨_,rfl⟩;have sa:va.heap.size=w.heap.size+1:=by rw [← hva,World.size_alloc]
 rw [hva] at kE E0;have kS:=below_alloc va (.cells #[.slice a1 1 b1,.slice a2 l.length b2] 25);have S0:=boxA_new va #[.slice a1 1 b1,.slice a2 l.length b2] 25;obtain ⟨vb,hvb⟩:∃ vb,va.alloc (.cells #[.slice a1 1 b1,.slice a2 l.length b2] 25)=vb:=⟨_,rfl⟩;have sb:vb.heap.size=w.heap.size+1+1:=by rw [← hvb,World.size_alloc,sa]
 rw [hvb] at kS S0;have kX:=below_alloc vb (.cells #[.slice x1 t.ns.length y1,.slice x2 t.kids.length y2] 25);have X0:=boxA_new vb #[.slice x1 t.ns.length y1,.slice x2 t.kids.length y2] 25;obtain ⟨vc,hvc⟩:∃ vc,vb.alloc (.cells #[.slice x1 t.ns.length y1,.slice x2 t.kids.length y2] 25)=vc:=⟨_,rfl⟩;have sc:vc.heap.size=w.heap.size+1+1+1:=by rw [← hvc,World.size_alloc,sb]
 rw [hvc] at kX X0;have kR:=below_alloc vc (.cells #[.slice none 0 0,.slice none 0 0] 25);have R0:=boxA_new vc #[.slice none 0 0,.slice none 0 0] 25;obtain ⟨v,hv⟩:∃ v,vc.alloc (.cells #[.slice none 0 0,.slice none 0 0] 25)=v:=⟨_,rfl⟩;have sv:v.heap.size=w.heap.size+1+1+1+1:=by rw [← hv,World.size_alloc,sc]
 rw [hv] at kR R0;rw [sa] at S0;rw [sb] at X0;rw [sc] at R0;have E1:=((E0.below kS (by omega)).below kX (by omega)).below kR (by omega);have S1:=(S0.below kX (by omega)).below kR (by omega);have X1:=X0.below kR (by omega);have kv:Below w.heap.size w v:=((kE.trans (kS.mono (by omega))).trans (kX.mono (by omega))).trans (kR.mono (by omega));have q0:=E1.cell 0 rfl;clear hD hA hm hS hin hc hE hN hdp hcl kE kS kX kR E0 S0 X0;go_enter Tryz.func11,Tryz.ntmps11;have C1:=shOfTwo_any 1 v;have hnf:=eq_nil6
 go_wp2_with fail
 refine C1.mono ?_;rintro e w1 ⟨rfl,hT,q1⟩;have hget:(Instr.lookup 77 (.map (some (v.heap.size+1))) (.int .i32 9076) false).run Tryz.prog w1=.ok (.func (.func 53) #[] #[]) w1:=MapIs.get (k:=9076) Tryz.underlying77 Tryz.underlying21 (zero_dyad6 w1) hT.tab;rw [sv] at hget;have s1:=q1.size;have hs1:v.heap.size+3<w1.heap.size:=by have:=hT.size;omega
 have E2:=E1.below q1 (by omega);have S2:=S1.below q1 (by omega);have X2:=X1.below q1 (by omega);have R2:=R0.below q1 (by omega);have kw1:=kv.trans (q1.mono (by omega));have kl:=below_alloc w1 (.cells #[.slice a1 1 b1,.slice a2 l.length b2,.slice x1 t.ns.length y1,.slice x2 t.kids.length y2] 25);have BL:=boxA_new w1 #[.slice a1 1 b1,.slice a2 l.length b2,.slice x1 t.ns.length y1,.slice x2 t.kids.length y2] 25;have sl:(w1.alloc (.cells #[.slice a1 1 b1,.slice a2 l.length b2,.slice x1 t.ns.length y1,.slice x2 t.kids.length y2] 25)).heap.size=w1.heap.size+1:=by simp
 have kw2:=kw1.trans (kl.mono (by omega));have CR:=refused_ok (w:=w1.alloc (.cells #[.slice a1 1 b1,.slice a2 l.length b2,.slice x1 t.ns.length y1,.slice x2 t.kids.length y2] 25)) (D:=fun g=>D g∨g=w1.heap.size) (f:=f+1) (ts:=[vecN l,t]) (a:=some ⟨w1.heap.size,0,none⟩) (c:=2) (eb:=eb) (e1:=e1) (e2:=e2) (m1:=m1) (k1:=c1) (m2:=m2) (k2:=c2) (pp:=pp) (fun g hg=>by
  rcases hg with hg | hg
  · have:=HD.out g hg
    omega
  · omega) (fun u hu=>by
  simp at hu;rcases hu with rfl | rfl
  · exact vecN_right HIN.out
  · exact HM.out) ⟨_,_,rfl,by simp,by omega,(fun h=>by cases h),Or.inr ⟨w1.heap.size,0,rfl,Or.inr rfl,fun j hj=>by
  match j,hj with
  | 0,_=>exact ⟨_,_,_,_,_,_,BL.cell 0 rfl,BL.cell 1 rfl,ArV.imp (fun g hg=>Or.inl hg) (Agree.of kw2 HD.out) (f+1) (f+1) _ _ (vecN l) (Nat.le_refl _) HS.out⟩
  | 1,_=>exact ⟨_,_,_,_,_,_,BL.cell 2 rfl,BL.cell 3 rfl,ArV.imp (fun g hg=>Or.inl hg) (Agree.of kw2 HD.out) (f+1) (f+1) _ _ t (Nat.le_refl _) HA.out⟩⟩⟩
 have p0:=E2.cell 0 rfl;have p1:=E2.cell 1 rfl;have p2:=E2.cell 2 rfl;have p3:=E2.cell 3 rfl;have p4:=E2.cell 4 rfl;have u0:=S2.cell 0 rfl;have u1:=S2.cell 1 rfl;have o0:=X2.cell 0 rfl;have o1:=X2.cell 1 rfl;clear q0 C1 E1 S1 X1 R0 hT
 go_wp2_with fail
 refine CR.mono ?_;rintro e w3 ⟨rfl,q3⟩;have s3:=q3.size;have S3:=(S2.below kl (by omega)).below q3 (by omega);have X3:=(X2.below kl (by omega)).below q3 (by omega);have R3:=(R2.below kl (by omega)).below q3 (by omega);have kw3:=kw2.trans (q3.mono (by omega));clear CR p0 p1 p2 p3 p4 u0 u1 o0 o1 E2 S2 X2 hget;have u0:=S3.cell 0 rfl;have u1:=S3.cell 1 rfl;have o0:=X3.cell 0 rfl;have o1:=X3.cell 1 rfl;have CP:=reshaped_ok (w:=w3) (fun g hg=>by have:=HD.out g hg;omega) HIN.out h0 h8 (HS.out.agree (Agree.of kw3 HD.out)) (HA.out.agree (Agree.of kw3 HD.out)) HM.out HC.out HNE.out.1 HNE.out.2 hN1 HTG.out.1 HTG.out.2
 go_wp2_with fail
 refine CP.mono ?_;rintro e w7 ⟨p1,u1,p2,u2,rfl,hv,k7⟩;have HV:Hid (ArV (f+1) (Fr w3.heap.size w7.heap.size) w7 (.slice p1 l.length u1) (.slice p2 N u2) (arrT l (cyc tr0 t.kids N))):=hv;have s7:=k7.size;have R7:=R3.below k7 (by omega);have kz:=kw3.trans (k7.mono (by omega));clear CP hv u0 o0 o1;have r0:=R7.cell 0 rfl;have r1:=R7.cell 1 rfl;have f0:=R7.frozen 0;have f1:=R7.frozen 1;have Rd:=R7.set2 (.slice p1 l.length u1) (.slice p2 N u2);have w0':=Rd.cell 0 rfl;have w1':=Rd.cell 1 rfl;go_wp2
 try simp only [Exit.inBlock,Exit.then]
 refine bodyPost_ret (v:=.tuple #[.agg #[.slice p1 l.length u1,.slice p2 N u2],.int .i64 0]) ?_ rfl ?_
 · simp [results,Tryz.results11,go_sem,w0',w1']
 refine ⟨p1,u1,p2,u2,rfl,?_,(kz.setCell (p:=⟨w.heap.size+1+1+1,0,none⟩) (by show w.heap.size≤w.heap.size+1+1+1;omega) _).setCell (p:=⟨w.heap.size+1+1+1,1,none⟩) (by show w.heap.size≤w.heap.size+1+1+1;omega) _⟩;refine ArV.imp ?_ ?_ (f+1) (f+1) _ _ _ (Nat.le_refl _) HV.out
 · rintro g' ⟨h1,h2⟩
   exact ⟨by omega,by simp [World.setCell];exact h2⟩
 · rintro g' ⟨h1,h2⟩
   have hne:¬ w.heap.size+1+1+1=g':=by omega
   simp [World.setCell,Array.getElem?_modify,hne]
end
def lvA:List Tr:=[wholeT 1,wholeT 2,wholeT 3,wholeT 1]
def lvB:List Tr:=[wholeT 1,wholeT 3,wholeT 2,wholeT 1]
theorem lv_meas {l:List Int} (h:∀ q∈l,0≤q∧q≤100):∀ t∈l.map wholeT,∀ M,measI M t=some (0,0):=fun t ht M=>by
 obtain ⟨q,hq,rfl⟩:=List.mem_map.1 ht;have:=h q hq;exact whole_meas M (by omega) (by omega)
theorem lvA_meas:∀ t∈lvA,∀ M,measI M t=some (0,0):=lv_meas (l:=[1,2,3,1]) (fun q hq=>by simp at hq;omega)
theorem lvB_meas:∀ t∈lvB,∀ M,measI M t=some (0,0):=lv_meas (l:=[1,3,2,1]) (fun q hq=>by simp at hq;omega)
theorem lv_right {its:List Tr} (hl:its.length=4) (hs:∀ t∈its,∀ M,measI M t=some (0,0)):(measF 16 (arrT [2,2] its)).isSome=true:=by
 have hsz:sizeF [2,2]=(4,0):=by decide
 rw [meas_simple (L:=15) (t:=arrT [2,2] its) (by show (sizeF [2,2]).2=0;decide) (by show (its.length:Int)=max (sizeF [2,2]).1 1;rw [hl,hsz];decide) (by show 0<2;omega) (fun x hx=>hs x hx _)];rfl
theorem lv_other (f:Nat):¬ eqF (f+1) (arrT [2,2] lvA) (arrT [2,2] lvB):=by
 rintro ⟨_,_,h⟩;have h1:=h 1 (by decide);have h2:(wholeT 2).ns=(wholeT 3).ns:=(h1.2.2.2 rfl).2.1;have h3:limbs2 2=limbs2 3:=h2;revert h3;decide
theorem lv_small:smF 1 (arrT [2,2] lvB):=by
 refine ⟨by show 2*8≤_;omega,by show 4*96≤_;omega,fun x hx => ?_⟩;obtain ⟨q,hq,rfl⟩:=List.mem_map.1 (show x∈[1,3,2,1].map wholeT from hx);have hl:=limbs2_len (if q<0 then -q else q);refine ⟨?_,?_,?_,?_⟩
 · show (limbs2 (if q<0 then -q else q)).length*4≤_
   omega
 · show 1*4≤_
   omega
 · show 0*48≤_
   omega
 · intro y hy
   cases hy
theorem lv_tog:togF (cyc (0,0) (msOf (vecN [1,2,3]).kids) 4)=(1,4):=by
 have hk:(vecN [1,2,3]).kids=[wholeT 1,wholeT 2,wholeT 3]:=vecN_kids (by decide) (by decide);have hm:msOf [wholeT 1,wholeT 2,wholeT 3]=[(0,0),(0,0),(0,0)]:=by
  unfold msOf;simp only [List.map_cons,List.map_nil];rw [whole_meas _ (by omega) (by omega),whole_meas _ (by omega) (by omega),whole_meas _ (by omega) (by omega)];rfl
 rw [hk,hm];decide
theorem live6_ok:Live6OK:=by
 intro w;go_enter Tryz.func9,Tryz.ntmps9
 go_wp2_with fail
 refine (env6_any _).mono ?_;rintro e w1 ⟨rfl,q1⟩;have k2:=below_alloc w1 (.cells #[.int .i64 2,.int .i64 2] 3);have B2:=boxA_new w1 #[.int .i64 2,.int .i64 2] 3;obtain ⟨w2,hw2⟩:∃ w2,w1.alloc (.cells #[.int .i64 2,.int .i64 2] 3)=w2:=⟨_,rfl⟩;have sz2:w2.heap.size=w1.heap.size+1:=by rw [← hw2,World.size_alloc]
 rw [hw2] at k2 B2;have C2:=ints_any (w:=w2) (D:=fun g=>g=w1.heap.size) (l:=[2,2]) (a:=some ⟨w1.heap.size,0,none⟩) (c:=2) (rdN_box (xs:=[2,2]) B2 rfl (fun x hx=>by simp at hx;omega) (by decide)) (fun g hg=>by omega)
 go_wp2_with fail
 refine Calls.mono C2 ?_;rintro e w3 ⟨a1,m1,b1,a2,m2,b2,rfl,hS,q3⟩;have en2:(vecT (wholeT 0) ([2,2].map wholeT)).kids.length=2:=by rw [show (vecT (wholeT 0) ([2,2].map wholeT)).kids=_ from vecN_kids (l:=[2,2]) (by decide) (by decide)];rfl
 obtain rfl:m1=1:=hS.1.len;obtain rfl:m2=2:=by have:=hS.2.len;rw [en2] at this;exact this
 have HS:Hid (ArV 1 (Fr w2.heap.size w3.heap.size) w3 (.slice a1 1 b1) (.slice a2 2 b2) (vecN [2,2])):=hS;clear C2 hS en2;have s3:=q3.size;have k4:=below_alloc w3 (.cells #[.int .i64 1,.int .i64 2,.int .i64 3] 3);have B4:=boxA_new w3 #[.int .i64 1,.int .i64 2,.int .i64 3] 3;obtain ⟨w4,hw4⟩:∃ w4,w3.alloc (.cells #[.int .i64 1,.int .i64 2,.int .i64 3] 3)=w4:=⟨_,rfl⟩;have sz4:w4.heap.size=w3.heap.size+1:=by rw [← hw4,World.size_alloc]
 rw [hw4] at k4 B4;have C4:=ints_any (w:=w4) (D:=fun g=>g=w3.heap.size) (l:=[1,2,3]) (a:=some ⟨w3.heap.size,0,none⟩) (c:=3) (rdN_box (xs:=[1,2,3]) B4 rfl (fun x hx=>by simp at hx;omega) (by decide)) (fun g hg=>by omega)
 go_wp2_with fail
 refine Calls.mono C4 ?_;rintro e w5 ⟨x1,m1,y1,x2,m2,y2,rfl,hT,q5⟩;have en3:(vecN [1,2,3]).kids.length=3:=by rw [vecN_kids (l:=[1,2,3]) (by decide) (by decide)];rfl
 obtain rfl:m1=1:=hT.1.len;obtain rfl:m2=3:=by have:=hT.2.len;rw [show (vecT (wholeT 0) ([1,2,3].map wholeT)).kids.length=3 from en3] at this;exact this
 have HT:Hid (ArV 1 (Fr w4.heap.size w5.heap.size) w5 (.slice x1 1 y1) (.slice x2 3 y2) (vecN [1,2,3])):=hT;clear C4 hT;have s5:=q5.size;have s1:=q1.size;have kw5:Below w.heap.size w w5:=(((q1.trans (k2.mono s1)).trans (q3.mono (by omega))).trans (k4.mono (by omega))).trans (q5.mono (by omega));have k35:Below w3.heap.size w3 w5:=k4.trans (q5.mono (by omega));have CD:=dyadic_resh (f:=0) (N:=4) (w:=w5) (D:=fun g=>w.heap.size≤g∧g<w5.heap.size) (l:=[2,2]) (t:=vecN [1,2,3]) (a1:=a1) (b1:=b1) (a2:=a2) (b2:=b2) (x1:=x1) (y1:=y1) (x2:=x2) (y2:=y2) (eb:=false) (e1:=none) (e2:=none) (m1:=0) (c1:=0) (m2:=0) (c2:=0) (pp:=0) (fun g hg=>hg.2) (fun x hx=>by simp at hx;omega) (by decide) (by decide)
  (ArV.imp (fun g hg=>⟨by have:=hg.1;omega,by have:=hg.2;omega⟩) (fun g hg=>k35.block g hg.2) 1 1 _ _ _ (Nat.le_refl _) HS.out)
  (by rw [en3];exact ArV.imp (fun g hg=>⟨by have:=hg.1;omega,hg.2⟩) (fun _ _=>rfl) 1 1 _ _ _ (Nat.le_refl _) HT.out) (vecN_right (fun x hx=>by simp at hx;omega)) (by rw [vecN_ns (by decide)];decide) (by decide) (by decide) (by omega) (by rw [lv_tog];decide) (by rw [lv_tog];decide)
 have ecy:cyc tr0 (vecN [1,2,3]).kids 4=lvA:=by rw [vecN_kids (l:=[1,2,3]) (by decide) (by decide)];rfl
 rw [en3,ecy] at CD;have CD2:Calls Tryz.prog 11 #[.agg #[.int .i64 1,.bool false,.slice none 0 0,.slice none 0 0,.int .i64 0],.int .i32 9076,.agg #[.slice a1 1 b1,.slice a2 2 b2],.agg #[.slice x1 1 y1,.slice x2 3 y2]] w5 fun e w'=>∃ z1 u1 z2 u2,e=.returned (.tuple #[.agg #[.slice z1 2 u1,.slice z2 4 u2],.int .i64 0])∧ArV 1 (Fr w5.heap.size w'.heap.size) w' (.slice z1 2 u1) (.slice z2 4 u2) (arrT [2,2] lvA)∧Below w5.heap.size w5 w':=CD;clear CD ecy en3
 go_wp2_with fail
 refine CD2.mono ?_;rintro e w6 ⟨z1,u1,z2,u2,rfl,hA,q6⟩;have HA:Hid (ArV 1 (Fr w5.heap.size w6.heap.size) w6 (.slice z1 2 u1) (.slice z2 4 u2) (arrT [2,2] lvA)):=hA;have s6:=q6.size;clear CD2 hA;have k7:=below_alloc w6 (.cells #[.slice z1 2 u1,.slice z2 4 u2] 25);have B7:=boxA_new w6 #[.slice z1 2 u1,.slice z2 4 u2] 25;obtain ⟨w7,hw7⟩:∃ w7,w6.alloc (.cells #[.slice z1 2 u1,.slice z2 4 u2] 25)=w7:=⟨_,rfl⟩;have sz7:w7.heap.size=w6.heap.size+1:=by rw [← hw7,World.size_alloc]
 rw [hw7] at k7 B7;have kw7:Below w.heap.size w w7:=(kw5.trans (q6.mono (by omega))).trans (k7.mono (by omega));have HA7:Hid (ArV 1 (Fr w5.heap.size w7.heap.size) w7 (.slice z1 2 u1) (.slice z2 4 u2) (arrT [2,2] lvA)):=ArV.imp (fun g hg=>⟨hg.1,by have:=hg.2;omega⟩) (fun g hg=>k7.block g hg.2) 1 1 _ _ _ (Nat.le_refl _) HA.out;have l7:=B7.lt;clear HA HS HT k35 kw5
 go_wp2_with fail
 refine wp_region_noPanic ?_;refine lv_2 (kk:=w6.heap.size) (F:=1) (U:=arrT [2,2] lvB) (x1:=z1) (y1:=u1) (x2:=z2) (y2:=u2) (fun k=>⟨(B7.below k l7).cell 0 rfl,(B7.below k l7).cell 1 rfl⟩) (fun u hk => ?_) ?_
 · have C:=monadic_22 (f:=0) (w:=u) (D:=fun g=>w5.heap.size≤g∧g<u.heap.size) (its:=lvA) (x1:=z1) (y1:=u1) (x2:=z2) (y2:=u2) (fun g hg=>hg.2) (ArV.imp (fun g hg=>⟨hg.1,by have:=hg.2;have:=hk.size;omega⟩) (fun g hg=>hk.block g hg.2) 1 1 _ _ _ (Nat.le_refl _) HA7.out) rfl lvA_meas
   refine C.mono ?_;rintro e w' ⟨p1,q1,p2,q2,rfl,hv,hb⟩;exact ⟨⟨p1,q1,p2,q2,rfl,hv⟩,hb⟩
 intro A3 p1 c1 p2 c2 w8 B8 hA3 HB k8;have s8:=k8.size;have kw8:=kw7.trans (k8.mono (by have:=kw7.size;omega));have B78:=B7.below k8 l7;have l8:=B8.lt;have HA8:Hid (ArV 1 (Fr w5.heap.size w8.heap.size) w8 (.slice z1 2 u1) (.slice z2 4 u2) (arrT [2,2] lvA)):=ArV.imp (fun g hg=>⟨hg.1,by have:=hg.2;omega⟩) (fun g hg=>k8.block g hg.2) 1 1 _ _ _ (Nat.le_refl _) HA7.out;have HB8:Hid (∀ u,Below w8.heap.size w8 u→ArV 1 (fun g=>w5.heap.size≤g∧g<w8.heap.size) u (.slice p1 2 c1) (.slice p2 4 c2) (arrT [2,2] lvB)):=fun u k=>ArV.imp (fun g hg=>⟨by have:=hg.1;omega,hg.2⟩) (fun g hg=>k.block g hg.2) 1 1 _ _ _ (Nat.le_refl _) HB.out;have HA9:Hid (∀ u,Below w8.heap.size w8 u→ArV 1 (fun g=>w5.heap.size≤g∧g<w8.heap.size) u (.slice z1 2 u1) (.slice z2 4 u2) (arrT [2,2] lvA)):=fun u k=>ArV.imp (fun g hg=>hg) (fun g hg=>k.block g hg.2) 1 1 _ _ _ (Nat.le_refl _) HA8.out;clear HA7 HA8 HB
 go_wp2_with fail
 refine wp_region_noPanic ?_;refine lv_3 (kk:=w6.heap.size) (kb:=A3) (F:=1) (U:=arrT [2,2] lvB) (x1:=z1) (y1:=u1) (x2:=z2) (y2:=u2) (p1:=p1) (q1:=c1) (p2:=p2) (q2:=c2) (fun k=>⟨(B78.below k (by omega)).cell 0 rfl,(B78.below k (by omega)).cell 1 rfl,(B8.below k l8).cell 0 rfl,(B8.below k l8).cell 1 rfl⟩) (fun u k => ?_) (fun u k => ?_) (fun u d1 m1 e1 d2 m2 e2 k hc => ?_) (fun u k => ?_) ?_
 · have C:=right3_any (fun g hg=>by have:=hg.2;have:=k.size;omega) (HB8.out u k)
   rw [lv_right rfl lvB_meas] at C;exact C
 · exact refCopy3_any (HB8.out u k) (fun g hg=>by have:=hg.2;have:=k.size;omega) lv_small
 · exact same_all 1 (fun g=>g<u.heap.size) u _ _ _ _ _ _ _ _ _ _ _ _ _ (fun g hg=>hg) ((HB8.out u k).mono (fun g hg=>by have:=hg.2;have:=k.size;omega)) (hc.out.mono (fun g hg=>hg.2))
 · refine (match3_any (fun g hg=>by have:=hg.2;have:=k.size;omega) (HA9.out u k) (HB8.out u k)).mono ?_
   rintro e w' ⟨⟨β,rfl,hβ⟩,hb⟩;refine ⟨?_,hb⟩
   cases β with
   | false=>rfl
   | true=>exact absurd (hβ.out.1 rfl).2.2 (lv_other 0)
 · intro d1 m1 e1 d2 m2 e2 w9 k9
   go_wp2
   go_ret
   exact ⟨rfl,kw8.trans (k9.mono (by have:=kw8.size;omega))⟩
end Go.Proofs.YtheaeggecpfcbaaGreat
