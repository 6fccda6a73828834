/- The document's Zero and Binomial. -/
import Derived.Test.YtilbfkabfgnhpaaGreatU2
set_option maxRecDepth 100000
set_option maxHeartbeats 32000000
set_option linter.unusedVariables false
set_option linter.unusedSimpArgs false
namespace Go.Proofs.YtilbfkabfgnhpaaGreat
open Go.RowKit
theorem binom_up {n j:Nat} (h:j<n):binom n (j+1)*(j+1)=binom n j*(n - j):=by
 obtain ⟨m,rfl⟩:∃ m,n=m+1:=⟨n - 1,by omega⟩;have h1:=binom_absorb m j;have h2:=binom_absorb m (m - j);have h3:=binom_sym (m+1) j (m - j+1) (by omega);have h4:=binom_sym m (m - j) j (by omega);rw [h4] at h2;rw [h3,Nat.mul_comm,h1,← h2,Nat.mul_comm]
 congr 1
 omega
theorem binom_rise {n j:Nat} (h:2*(j+1)≤n+1) (hj:j<n):binom n j≤binom n (j+1):=by
 have h1:=binom_up hj;have h2:binom n j*(j+1)≤binom n j*(n - j):=Nat.mul_le_mul_left _ (by omega);rw [← h1] at h2;exact Nat.le_of_mul_le_mul_right h2 (Nat.succ_pos j)
theorem binom_below {n L:Nat} (hL:2*L≤n):∀ d j,j+d=L→binom n j≤binom n L:=by
 intro d
 induction d with
 | zero=>
  intro j h;have:j=L:=by omega
  subst this;exact Nat.le_refl _
 | succ d ih=>intro j h;exact Nat.le_trans (binom_rise (by omega) (by omega)) (ih (j+1) (by omega))
theorem binom_pos {n:Nat}:∀ {k:Nat},k≤n→0<binom n k:=by
 induction n with
 | zero=>
  intro k h;have:k=0:=by omega
  subst this;decide
 | succ n ih=>
  intro k h
  match k,h with
  | 0,_=>rw [binom_zero];decide
  | k+1,h=>rw [binom_succ];have:=ih (k:=k) (by omega);omega
theorem refZero_any (w:World):Calls Tryz.prog 71 #[] w fun e w'=>∃ ds,Hid (ds=[(1:Int)])∧NumAns w false [] ds e w':=by
 have R:=rvar_new w;have g:=below_alloc w (.cells #[.bool false,.slice none 0 0,.slice none 0 0] 24);go_enter Tryz.func71,Tryz.ntmps71
 go_wp2_with fail
 generalize hA:w.alloc (.cells #[.bool false,.slice none 0 0,.slice none 0 0] 24)=v at *;clear hA;refine (refOne_any _).mono ?_;rintro e wa ⟨ds,a,c,HD,rfl,od,ka⟩;have R2:=R.below ka;have q0:=R2.box.c0;have q1:=R2.box.c1;have q2:=R2.box.c2;have p0:=R2.box.f0;have p1:=R2.box.f1;have p2:=R2.box.f2;go_wp2
 have hR3:=R2.box.set (.bool false) (.slice none 0 0) (.slice a ds.length c);have r0:=hR3.c0;have r1:=hR3.c1;have r2:=hR3.c2;refine bodyPost_ret (v:=.agg #[.bool false,.slice none 0 0,.slice a ds.length c]) (by simp [results,Tryz.results71,go_sem,r0,r1,r2]) rfl ?_;exact ⟨ds,HD,Below.set3 (g.trans (ka.mono g.size)) (Nat.le_refl _) _ _ _,none,0,a,c,rfl,⟨lim_nil,World.ownsRow_nil _ _ _ _⟩,(Own.set3 od R.lt _ _ _).mono g.size⟩
section
variable {w:World} {bx cy:Bool} {a1 a2 a3 a4:Option Addr} {c1 c2 c3 c4:Nat} {xn xd yn yd:List Int}
theorem refBinomial_rat (h1:Rd w.heap.size w (.slice a1 xn.length c1) xn) (h2:Rd w.heap.size w (.slice a2 xd.length c2) xd) (h3:Rd w.heap.size w (.slice a3 yn.length c3) yn) (h4:Rd w.heap.size w (.slice a4 yd.length c4) yd) :
    Calls Tryz.prog 40 #[.agg #[.bool bx,.slice a1 xn.length c1,.slice a2 xd.length c2],.agg #[.bool cy,.slice a3 yn.length c3,.slice a4 yd.length c4]] w fun e w'=>∃ c ns ds err,Hid (CountSpec (RightP bx xn xd∧RightP cy yn yd) (IsCount bx xd∧IsCount cy yd) (binom (val yn).toNat (val xn).toNat) c ns ds err)∧RAns w c ns ds err e w':=by
 obtain ⟨X,Y,R,g⟩:=in2_r (bx:=bx) (cy:=cy) w h1 h2 h3 h4;have sr:w.heap.size≤w.heap.size+1+1:=by omega
 have nx:w.heap.size≠w.heap.size+1+1:=by omega
 have ny:w.heap.size+1≠w.heap.size+1+1:=by omega
 clear h1 h2 h3 h4;go_enter Tryz.func40,Tryz.ntmps40;obtain ⟨X0,X1,X2⟩:=X.cells
 go_wp2_with fail
 clear X0 X1 X2;generalize hA:((w.alloc (.cells #[.bool bx,.slice a1 xn.length c1,.slice a2 xd.length c2] 24)).alloc (.cells #[.bool cy,.slice a3 yn.length c3,.slice a4 yd.length c4] 24)).alloc (.cells #[.bool false,.slice none 0 0,.slice none 0 0] 24)=v at *;clear hA;refine (refRight_rat X.rn X.rd).mono ?_;rintro e wa ⟨⟨r,rfl,hr⟩,ka⟩;replace X:=X.below ka;replace Y:=Y.below ka;replace R:=R.below ka;replace g:=g.trans (ka.mono g.size);clear ka
 cases r with
 | false=>
  have HP:Hid (¬ RightP bx xn xd):=fun h=>by have:=hr.2 h;cases this
  clear hr;have q0:=R.box.c0;have q1:=R.box.c1;have q2:=R.box.c2;have p0:=R.box.f0;have p1:=R.box.f1;have p2:=R.box.f2;go_wp2
  have hR3:=R.box.set (.bool false) (.slice none 0 0) (.slice none 0 0);have r0:=hR3.c0;have r1:=hR3.c1;have r2:=hR3.c2;refine bodyPost_ret (v:=.tuple #[.agg #[.bool false,.slice none 0 0,.slice none 0 0],.int .i64 22]) (by simp [results,Tryz.results40,go_sem,r0,r1,r2]) rfl ?_;exact ⟨false,[],[],22,Or.inl ⟨fun h=>HP.out h.1,rfl,rfl,rfl,rfl⟩,Below.set3 g sr _ _ _,none,0,none,0,rfl,nil_rd _,nil_rd _⟩
 | true=>
  have hx:Hid (RightP bx xn xd):=hr.1 rfl;clear hr;obtain ⟨Y0,Y1,Y2⟩:=Y.cells
  go_wp2_with fail
  clear Y0 Y1 Y2;refine (refRight_rat Y.rn Y.rd).mono ?_;rintro e wb ⟨⟨r,rfl,hr⟩,kb⟩;replace X:=X.below kb;replace Y:=Y.below kb;replace R:=R.below kb;replace g:=g.trans (kb.mono g.size);clear kb
  cases r with
  | false=>
   have HP:Hid (¬ RightP cy yn yd):=fun h=>by have:=hr.2 h;cases this
   clear hr;have q0:=R.box.c0;have q1:=R.box.c1;have q2:=R.box.c2;have p0:=R.box.f0;have p1:=R.box.f1;have p2:=R.box.f2;go_wp2
   have hR3:=R.box.set (.bool false) (.slice none 0 0) (.slice none 0 0);have r0:=hR3.c0;have r1:=hR3.c1;have r2:=hR3.c2;refine bodyPost_ret (v:=.tuple #[.agg #[.bool false,.slice none 0 0,.slice none 0 0],.int .i64 22]) (by simp [results,Tryz.results40,go_sem,r0,r1,r2]) rfl ?_;exact ⟨false,[],[],22,Or.inl ⟨fun h=>HP.out h.2,rfl,rfl,rfl,rfl⟩,Below.set3 g sr _ _ _,none,0,none,0,rfl,nil_rd _,nil_rd _⟩
  | true=>
   have hy:Hid (RightP cy yn yd):=hr.1 rfl;clear hr;have l1:=hx.out.1;have l2:=hx.out.2.1;have l3:=hy.out.1;have l4:=hy.out.2.1;obtain ⟨X0,X1,X2⟩:=X.cells;obtain ⟨Y0,Y1,Y2⟩:=Y.cells
   go_wp2_with fail
   clear X0 X1 X2 Y0 Y1 Y2;refine (refWhole_any X.rn X.rd hx).mono ?_;rintro e wd ⟨⟨r,rfl,hr⟩,kd⟩;replace X:=X.below kd;replace Y:=Y.below kd;replace R:=R.below kd;replace g:=g.trans (kd.mono g.size);clear kd
   cases r with
   | false=>
    have HC:Hid (¬ IsCount bx xd):=fun h=>by have:=hr.2 h;cases this
    clear hr;have q0:=R.box.c0;have q1:=R.box.c1;have q2:=R.box.c2;have p0:=R.box.f0;have p1:=R.box.f1;have p2:=R.box.f2;go_wp2
    have hR3:=R.box.set (.bool false) (.slice none 0 0) (.slice none 0 0);have r0:=hR3.c0;have r1:=hR3.c1;have r2:=hR3.c2;refine bodyPost_ret (v:=.tuple #[.agg #[.bool false,.slice none 0 0,.slice none 0 0],.int .i64 3]) (by simp [results,Tryz.results40,go_sem,r0,r1,r2]) rfl ?_;exact ⟨false,[],[],3,Or.inr (Or.inl ⟨⟨hx.out,hy.out⟩,fun h=>HC.out h.1,rfl,rfl,rfl,rfl⟩),Below.set3 g sr _ _ _,none,0,none,0,rfl,nil_rd _,nil_rd _⟩
   | true=>
    have HC1:Hid (IsCount bx xd):=hr.1 rfl;clear hr;obtain ⟨X0,X1,X2⟩:=X.cells;obtain ⟨Y0,Y1,Y2⟩:=Y.cells
    go_wp2_with fail
    clear X0 X1 X2 Y0 Y1 Y2;refine (refWhole_any Y.rn Y.rd hy).mono ?_;rintro e we ⟨⟨r,rfl,hr⟩,ke⟩;replace X:=X.below ke;replace Y:=Y.below ke;replace R:=R.below ke;replace g:=g.trans (ke.mono g.size);clear ke
    cases r with
    | false=>
     have HC:Hid (¬ IsCount cy yd):=fun h=>by have:=hr.2 h;cases this
     clear hr;have q0:=R.box.c0;have q1:=R.box.c1;have q2:=R.box.c2;have p0:=R.box.f0;have p1:=R.box.f1;have p2:=R.box.f2;go_wp2
     have hR3:=R.box.set (.bool false) (.slice none 0 0) (.slice none 0 0);have r0:=hR3.c0;have r1:=hR3.c1;have r2:=hR3.c2;refine bodyPost_ret (v:=.tuple #[.agg #[.bool false,.slice none 0 0,.slice none 0 0],.int .i64 3]) (by simp [results,Tryz.results40,go_sem,r0,r1,r2]) rfl ?_;exact ⟨false,[],[],3,Or.inr (Or.inl ⟨⟨hx.out,hy.out⟩,fun h=>HC.out h.2,rfl,rfl,rfl,rfl⟩),Below.set3 g sr _ _ _,none,0,none,0,rfl,nil_rd _,nil_rd _⟩
    | true=>
     have HCC:Hid (IsCount bx xd∧IsCount cy yd):=⟨HC1.out,hr.1 rfl⟩;clear hr HC1;obtain ⟨K,HKn⟩:∃ K:Nat,Hid (K=(val xn).toNat∧val xn=(K:Int)):=⟨(val xn).toNat,rfl,by have:=(right_pos hx.out).2;omega⟩;obtain ⟨N,HNn⟩:∃ N:Nat,Hid (N=(val yn).toNat∧val yn=(N:Int)):=⟨(val yn).toNat,rfl,by have:=(right_pos hy.out).2;omega⟩;obtain ⟨X0,X1,X2⟩:=X.cells;obtain ⟨Y0,Y1,Y2⟩:=Y.cells
     go_wp2_with fail
     clear X0 X1 X2 Y0 Y1 Y2;refine (refMinus_any Y.rn (Nat.le_refl _) X.rn (Nat.le_refl _) (by omega) (by omega)).mono ?_;rintro e wf ⟨kf,hm⟩;replace X:=X.below kf;replace Y:=Y.below kf;replace R:=R.below kf;replace g:=g.trans (kf.mono g.size);by_cases hlt:N<K
     · rw [if_pos (by rw [HNn.out.2,HKn.out.2];omega)] at hm
       subst hm
       go_wp2_with fail
       refine (refZero_any _).mono ?_;rintro e wz ⟨ds,HD,kz,x5,y5,x6,y6,rfl,on,od⟩;have R9:=R;replace X:=X.below kz;replace Y:=Y.below kz;replace R:=R.below kz;replace g:=g.trans (kz.mono g.size);have q0:=R.box.c0;have q1:=R.box.c1;have q2:=R.box.c2;have p0:=R.box.f0;have p1:=R.box.f1;have p2:=R.box.f2;go_wp2
       have hR3:=R.box.set (.bool false) (.slice x5 0 y5) (.slice x6 ds.length y6);have r0:=hR3.c0;have r1:=hR3.c1;have r2:=hR3.c2;refine bodyPost_ret (v:=.tuple #[.agg #[.bool false,.slice x5 0 y5,.slice x6 ds.length y6],.int .i64 0]) (by simp [results,Tryz.results40,go_sem,r0,r1,r2]) rfl ?_;have hb0:=binom_lt hlt;exact ⟨false,[],ds,0,Or.inr (Or.inr (Or.inr ⟨⟨hx.out,hy.out⟩,HCC.out,by rw [← HNn.out.1,← HKn.out.1,hb0];exact pw_pos 32,rfl,rfl,⟨lim_nil,Or.inl rfl⟩,by rw [← HNn.out.1,← HKn.out.1,hb0];rfl,HD.out⟩)),Below.set3 g sr _ _ _,x5,y5,x6,y6,rfl,(Own.set3 on R9.lt _ _ _).rd,(Own.set3 od R9.lt _ _ _).rd⟩
     · rw [if_neg (by rw [HNn.out.2,HKn.out.2];omega)] at hm
       obtain ⟨rs,ar,cr,crs,vr,rfl,orr⟩:=hm;have HRr:Hid (val rs=((N - K:Nat):Int)):=by unfold Hid;rw [vr,HNn.out.2,HKn.out.2];omega
       clear vr;have lrr:rs.length≤32:=by
        rw [can_len_pw crs,HRr.out];have h5:=(can_len_pw hy.out.2.2.1 32).1 l3;rw [HNn.out.2] at h5;omega
       have rr:=orr.rd;obtain ⟨X0,X1,X2⟩:=X.cells;obtain ⟨Y0,Y1,Y2⟩:=Y.cells
       go_wp2_with fail
       clear X0 X1 X2 Y0 Y1 Y2;refine (refCompare_rd rr X.rn (Nat.le_refl _) (by omega) (by omega)).mono ?_;rintro e wg ⟨rfl,kg⟩;replace rr:=(rr.below kg).mono kg.size;replace X:=X.below kg;replace Y:=Y.below kg;replace R:=R.below kg;replace g:=g.trans (kg.mono g.size);rw [HRr.out,HKn.out.2];rcases Int.lt_trichotomy ((N - K:Nat):Int) (K:Int) with hc | hc | hc
       · rw [cmpI_lt hc]
         obtain ⟨L,rfl⟩:∃ L,L=N - K:=⟨_,rfl⟩;have HLv:Hid (val rs=((N - K:Nat):Int)):=HRr;have HLc:Hid (can rs):=crs;have HLL:Hid (2*(N - K)≤N∧binom N (N - K)=binom N K):=⟨by omega,binom_sym N (N - K) K (by omega)⟩;have LS:=rr;generalize hLe:N - K=L at *;clear hc hLe;have hcond:2*L≤N:=HLL.out.1;have l9:rs.length≤32:=by rw [can_len_pw HLc.out];rw [HLv.out];have h5:=(can_len_pw hy.out.2.2.1 32).1 l3;rw [HNn.out.2] at h5;omega
         obtain ⟨Y0,Y1,Y2⟩:=Y.cells
         go_wp2_with fail
         clear Y0 Y1 Y2;refine (refOne_any _).mono ?_;rintro e wq ⟨t0,p1,q1,HS0,rfl,os0,kq⟩;replace LS:=(LS.below kq).mono kq.size;replace X:=X.below kq;replace Y:=Y.below kq;replace R:=R.below kq;replace g:=g.trans (kq.mono g.size);clear kq;have c0:Hid (can t0∧t0.length≤32∧val t0=1):=by
          unfold Hid;rw [HS0.out];exact ⟨can_one,by simp,one_val⟩
         have rs0:=os0.rd;obtain ⟨Y0,Y1,Y2⟩:=Y.cells;go_wp2
         clear Y0 Y1 Y2
         go_loopg [9,10,11] L (fun gk cv iv tv wr=>∃ (j:Nat) (cs is ts:List Int) (a:Option Addr) (c:Nat) (a':Option Addr) (c':Nat) (a'':Option Addr) (c'':Nat),Hid (gk=L - j)∧cv=.slice a cs.length c∧iv=.slice a' is.length c'∧tv=.slice a'' ts.length c''∧j≤L∧can cs∧can is∧can ts∧Hid (val cs=(binom N j:Int)∧val is=(j:Int)∧val ts=(N:Int) - (j:Int))∧cs.length≤32∧is.length≤32∧ts.length≤32∧Rd wr.heap.size wr (.slice a cs.length c) cs∧Rd wr.heap.size wr (.slice a' is.length c') is∧Rd wr.heap.size wr (.slice a'' ts.length c'') ts∧Below wq.heap.size wq wr)
         case atStart=>exact ⟨0,t0,[],yn,p1,q1,none,0,a3,c3,rfl,rfl,rfl,rfl,Nat.zero_le _,c0.out.1,⟨lim_nil,Or.inl rfl⟩,hy.out.2.2.1,⟨by rw [c0.out.2.2,binom_zero];rfl,rfl,by rw [HNn.out.2];omega⟩,c0.out.2.1,by simp,l3,rs0,nil_rd _,Y.rn,Below.refl _ _⟩
         case round=>
          obtain ⟨j,cs,is,ts,a,c,a',c',a'',c'',hgk,rfl,rfl,rfl,hj,hcs,hci,hct,HV,lc,li,lt,rc,ri,rt,tr⟩:=hrel;have LR:=(LS.below tr).mono tr.size
          go_wp2_with fail
          refine (refCompare_rd ri LR (Nat.le_refl _) (by omega) (by omega)).mono ?_;rintro e w1 ⟨rfl,k1⟩;have t1:Below wq.heap.size wq w1:=tr.trans (k1.mono tr.size);rw [HV.out.2.1,HLv.out];replace rc:=(rc.below k1).mono k1.size;replace ri:=(ri.below k1).mono k1.size;replace rt:=(rt.below k1).mono k1.size;by_cases hlt:j<L
          · rw [cmpI_lt (show (j:Int)<(L:Int) by omega)]
            go_wp2_with fail
            refine (refOne_any _).mono ?_;rintro e w2 ⟨ds,p7,q7,HD,rfl,od,k2⟩;have t2:Below wq.heap.size wq w2:=t1.trans (k2.mono t1.size);have ld:ds.length≤1:=by rw [HD.out];exact Nat.le_refl _
            replace rc:=(rc.below k2).mono k2.size;replace ri:=(ri.below k2).mono k2.size;replace rt:=(rt.below k2).mono k2.size
            go_wp2_with fail
            refine (refAdd_any ri (Nat.le_refl _) od.rd (Nat.le_refl _) (by omega) (by omega)).mono ?_;rintro e w3 ⟨us,cu,vu,lu,p4,q4,rfl,ou,k3⟩;have t3:Below wq.heap.size wq w3:=t2.trans (k3.mono t2.size);replace rc:=(rc.below k3).mono k3.size;replace rt:=(rt.below k3).mono k3.size;have HU:Hid (val us=(j:Int)+1∧can us):=⟨by rw [vu,HV.out.2.1,HD.out,one_val],cu⟩;clear vu cu;have ru:=ou.rd
            go_wp2_with fail
            refine (refMul_any rc (Nat.le_refl _) rt (Nat.le_refl _) (by omega) (by omega)).mono ?_;rintro e w4 ⟨zs,cz,vz,lz,p5,q5,rfl,oz,k4⟩;have t4:Below wq.heap.size wq w4:=t3.trans (k4.mono t3.size);replace ru:=(ru.below k4).mono k4.size;replace rt:=(rt.below k4).mono k4.size;have HZ:Hid (val zs=(binom N (j+1):Int)*((j:Int)+1)):=by
             unfold Hid;rw [vz,HV.out.1,HV.out.2.2];have h5:=binom_up (n:=N) (j:=j) (by omega);have h6:((binom N (j+1)*(j+1):Nat):Int)=((binom N j*(N - j):Nat):Int):=by rw [h5]
             rw [Int.natCast_mul,Int.natCast_mul,Int.natCast_sub (by omega)] at h6;exact h6.symm
            clear vz
            go_wp2_with fail
            refine (refDivMod_form oz.rd (Nat.le_refl _) ru (Nat.le_refl _) (by omega) (by omega)).mono ?_;rintro e w5 ⟨qs,rs,p6,q6,p8,q8,bq,rfl,oq,or,HQ0,k5⟩;have t5:Below wq.heap.size wq w5:=t4.trans (k5.mono t4.size);replace ru:=(ru.below k5).mono k5.size;replace rt:=(rt.below k5).mono k5.size;have HQ:Hid (can qs∧val qs=(binom N (j+1):Int)):=by
             rcases HQ0.out with ⟨h5,_⟩ | ⟨_,hb5,cq,cr,hv5,hl5⟩
             · have:=HU.out.1;omega
             · have h5:=div_unique hv5 (val_bound cr.1).1 hl5
               have h6:=div_unique (n:=val zs) (d:=val us) (q:=(binom N (j+1):Int)) (r:=0) (by rw [HZ.out,HU.out.1,Int.add_zero]) (by omega) (by rw [HU.out.1];omega);exact ⟨cq,by rw [h5.1,h6.1]⟩
            clear HQ0;have rq:=oq.rd
            go_wp2_with fail
            refine (refOne_any _).mono ?_;rintro e w6 ⟨es,p9,q9,HE,rfl,oe,k6⟩;have t6:Below wq.heap.size wq w6:=t5.trans (k6.mono t5.size);have le1:es.length≤1:=by rw [HE.out];exact Nat.le_refl _
            replace ru:=(ru.below k6).mono k6.size;replace rt:=(rt.below k6).mono k6.size;replace rq:=(rq.below k6).mono k6.size
            go_wp2_with fail
            refine (refMinus_any rt (Nat.le_refl _) oe.rd (Nat.le_refl _) (by omega) (by omega)).mono ?_;rintro e w7 ⟨k7,hm⟩;rw [if_neg (by rw [HV.out.2.2,HE.out,one_val];omega)] at hm;obtain ⟨ms,p10,q10,cm,vm,rfl,om⟩:=hm;have t7:Below wq.heap.size wq w7:=t6.trans (k7.mono t6.size);replace ru:=(ru.below k7).mono k7.size;replace rq:=(rq.below k7).mono k7.size;have HM:Hid (val ms=(N:Int) - ((j+1:Nat):Int)):=by unfold Hid;rw [vm,HV.out.2.2,HE.out,one_val];omega
            have lm:ms.length≤32:=by
             rw [can_len_pw cm,vm];have h5:=(can_len_pw hct 32).1 lt;rw [HE.out,one_val];omega
            clear vm;have lu2:us.length≤32:=by
             rw [can_len_pw HU.out.2,HU.out.1];have h5:=(can_len_pw HLc.out 32).1 l9;rw [HLv.out] at h5;omega
            by_cases hbig:32<qs.length
            · have HB:Great (binom N L):=by
               constructor;have h5:¬ val qs<pw 32:=fun h=>by have:=(can_len_pw HQ.out.1 32).2 h;omega
               have h6:=binom_below hcond (L - (j+1)) (j+1) (by omega);rw [HQ.out.2] at h5;omega
              have R4:=R.below t7;have q0:=R4.box.c0;have q1':=R4.box.c1;have q2':=R4.box.c2;have p0:=R4.box.f0;have p1':=R4.box.f1;have p2':=R4.box.f2;go_wp2
              have hR3:=R4.box.set (.bool false) (.slice none 0 0) (.slice none 0 0);have r0:=hR3.c0;have r1:=hR3.c1;have r2:=hR3.c2
              try simp only [Exit.inBlock,Exit.then]
              refine bodyPost_ret (v:=.tuple #[.agg #[.bool false,.slice none 0 0,.slice none 0 0],.int .i64 8]) ?_ rfl ?_
              · simp [results,Tryz.results40,go_sem,r0,r1,r2]
              exact ⟨false,[],[],8,Or.inr (Or.inr (Or.inl ⟨⟨hx.out,hy.out⟩,HCC.out,by rw [← HNn.out.1,← HKn.out.1,← HLL.out.2];exact HB.is,rfl,rfl,rfl,rfl⟩)),Below.set3 (g.trans (t7.mono g.size)) sr _ _ _,none,0,none,0,rfl,nil_rd _,nil_rd _⟩
            · go_wp2
              go_roundg (L - (j+1))
              case rel=>exact ⟨j+1,qs,us,ms,p6,q6,p4,q4,p10,q10,rfl,rfl,rfl,rfl,by omega,HQ.out.1,HU.out.2,cm,⟨HQ.out.2,by rw [HU.out.1];rfl,HM.out⟩,by omega,lu2,lm,rq,ru,om.rd,t7⟩
              case measure=>rw [hgk.out];omega
          · obtain rfl:j=L:=by omega
            rw [cmpI_eq (rfl:(j:Int)=(j:Int))]
            go_wp2_with fail
            refine (refOne_any _).mono ?_;rintro e w2 ⟨ds,p7,q7,HD,rfl,od,k2⟩;have t2:Below wq.heap.size wq w2:=t1.trans (k2.mono t1.size);have ld:ds.length≤10000:=by rw [HD.out];simp
            replace rc:=(rc.below k2).mono k2.size
            go_wp2_with fail
            refine (refMake_rat rc od.rd (by omega) ld (by rw [HD.out,one_val];decide)).mono ?_;intro e w3 hm6;rw [HD.out,one_val,sg_false,HV.out.1] at hm6;obtain ⟨bm6,b6,x5,n5,y5,x6,n6,y6,err,rfl,hform⟩:=(RMakes.from' t2 hm6).form;have RF:=R.below bm6;have q0:=RF.box.c0;have q1':=RF.box.c1;have q2':=RF.box.c2;have p0:=RF.box.f0;have p1':=RF.box.f1;have p2':=RF.box.f2;go_wp2
            have hR3:=RF.box.set (.bool b6) (.slice x5 n5 y5) (.slice x6 n6 y6);have r0:=hR3.c0;have r1:=hR3.c1;have r2:=hR3.c2
            try simp only [Exit.inBlock,Exit.then]
            refine bodyPost_ret (v:=.tuple #[.agg #[.bool b6,.slice x5 n5 y5,.slice x6 n6 y6],.int .i64 err]) ?_ rfl ?_
            · simp [results,Tryz.results40,go_sem,r0,r1,r2]
            have hfin:=rmakes_count (P:=RightP bx xn xd∧RightP cy yn yd) (C:=IsCount bx xd∧IsCount cy yd) ⟨hx.out,hy.out⟩ HCC.out (binom_pos (n:=N) (k:=j) (by omega)) (rform_done g sr R.lt bm6 hform);rw [← HNn.out.1,← HKn.out.1,← HLL.out.2];exact hfin
       · rw [cmpI_eq hc]
         obtain ⟨L,hLe⟩:∃ L,L=K:=⟨_,rfl⟩;have HLv:Hid (val xn=(L:Int)):=by unfold Hid;rw [hLe];exact HKn.out.2
         have HLc:Hid (can xn):=hx.out.2.2.1;have HLL:Hid (2*L≤N∧binom N L=binom N K):=⟨by omega,by rw [hLe]⟩;have LS:=X.rn;clear hc hLe;have hcond:2*L≤N:=HLL.out.1;have l9:xn.length≤32:=by rw [can_len_pw HLc.out];rw [HLv.out];have h5:=(can_len_pw hy.out.2.2.1 32).1 l3;rw [HNn.out.2] at h5;omega
         obtain ⟨Y0,Y1,Y2⟩:=Y.cells
         go_wp2_with fail
         clear Y0 Y1 Y2;refine (refOne_any _).mono ?_;rintro e wq ⟨t0,p1,q1,HS0,rfl,os0,kq⟩;replace LS:=(LS.below kq).mono kq.size;replace X:=X.below kq;replace Y:=Y.below kq;replace R:=R.below kq;replace g:=g.trans (kq.mono g.size);clear kq;have c0:Hid (can t0∧t0.length≤32∧val t0=1):=by
          unfold Hid;rw [HS0.out];exact ⟨can_one,by simp,one_val⟩
         have rs0:=os0.rd;obtain ⟨Y0,Y1,Y2⟩:=Y.cells;go_wp2
         clear Y0 Y1 Y2
         go_loopg [9,10,11] L (fun gk cv iv tv wr=>∃ (j:Nat) (cs is ts:List Int) (a:Option Addr) (c:Nat) (a':Option Addr) (c':Nat) (a'':Option Addr) (c'':Nat),Hid (gk=L - j)∧cv=.slice a cs.length c∧iv=.slice a' is.length c'∧tv=.slice a'' ts.length c''∧j≤L∧can cs∧can is∧can ts∧Hid (val cs=(binom N j:Int)∧val is=(j:Int)∧val ts=(N:Int) - (j:Int))∧cs.length≤32∧is.length≤32∧ts.length≤32∧Rd wr.heap.size wr (.slice a cs.length c) cs∧Rd wr.heap.size wr (.slice a' is.length c') is∧Rd wr.heap.size wr (.slice a'' ts.length c'') ts∧Below wq.heap.size wq wr)
         case atStart=>exact ⟨0,t0,[],yn,p1,q1,none,0,a3,c3,rfl,rfl,rfl,rfl,Nat.zero_le _,c0.out.1,⟨lim_nil,Or.inl rfl⟩,hy.out.2.2.1,⟨by rw [c0.out.2.2,binom_zero];rfl,rfl,by rw [HNn.out.2];omega⟩,c0.out.2.1,by simp,l3,rs0,nil_rd _,Y.rn,Below.refl _ _⟩
         case round=>
          obtain ⟨j,cs,is,ts,a,c,a',c',a'',c'',hgk,rfl,rfl,rfl,hj,hcs,hci,hct,HV,lc,li,lt,rc,ri,rt,tr⟩:=hrel;have LR:=(LS.below tr).mono tr.size
          go_wp2_with fail
          refine (refCompare_rd ri LR (Nat.le_refl _) (by omega) (by omega)).mono ?_;rintro e w1 ⟨rfl,k1⟩;have t1:Below wq.heap.size wq w1:=tr.trans (k1.mono tr.size);rw [HV.out.2.1,HLv.out];replace rc:=(rc.below k1).mono k1.size;replace ri:=(ri.below k1).mono k1.size;replace rt:=(rt.below k1).mono k1.size;by_cases hlt:j<L
          · rw [cmpI_lt (show (j:Int)<(L:Int) by omega)]
            go_wp2_with fail
            refine (refOne_any _).mono ?_;rintro e w2 ⟨ds,p7,q7,HD,rfl,od,k2⟩;have t2:Below wq.heap.size wq w2:=t1.trans (k2.mono t1.size);have ld:ds.length≤1:=by rw [HD.out];exact Nat.le_refl _
            replace rc:=(rc.below k2).mono k2.size;replace ri:=(ri.below k2).mono k2.size;replace rt:=(rt.below k2).mono k2.size
            go_wp2_with fail
            refine (refAdd_any ri (Nat.le_refl _) od.rd (Nat.le_refl _) (by omega) (by omega)).mono ?_;rintro e w3 ⟨us,cu,vu,lu,p4,q4,rfl,ou,k3⟩;have t3:Below wq.heap.size wq w3:=t2.trans (k3.mono t2.size);replace rc:=(rc.below k3).mono k3.size;replace rt:=(rt.below k3).mono k3.size;have HU:Hid (val us=(j:Int)+1∧can us):=⟨by rw [vu,HV.out.2.1,HD.out,one_val],cu⟩;clear vu cu;have ru:=ou.rd
            go_wp2_with fail
            refine (refMul_any rc (Nat.le_refl _) rt (Nat.le_refl _) (by omega) (by omega)).mono ?_;rintro e w4 ⟨zs,cz,vz,lz,p5,q5,rfl,oz,k4⟩;have t4:Below wq.heap.size wq w4:=t3.trans (k4.mono t3.size);replace ru:=(ru.below k4).mono k4.size;replace rt:=(rt.below k4).mono k4.size;have HZ:Hid (val zs=(binom N (j+1):Int)*((j:Int)+1)):=by
             unfold Hid;rw [vz,HV.out.1,HV.out.2.2];have h5:=binom_up (n:=N) (j:=j) (by omega);have h6:((binom N (j+1)*(j+1):Nat):Int)=((binom N j*(N - j):Nat):Int):=by rw [h5]
             rw [Int.natCast_mul,Int.natCast_mul,Int.natCast_sub (by omega)] at h6;exact h6.symm
            clear vz
            go_wp2_with fail
            refine (refDivMod_form oz.rd (Nat.le_refl _) ru (Nat.le_refl _) (by omega) (by omega)).mono ?_;rintro e w5 ⟨qs,rs,p6,q6,p8,q8,bq,rfl,oq,or,HQ0,k5⟩;have t5:Below wq.heap.size wq w5:=t4.trans (k5.mono t4.size);replace ru:=(ru.below k5).mono k5.size;replace rt:=(rt.below k5).mono k5.size;have HQ:Hid (can qs∧val qs=(binom N (j+1):Int)):=by
             rcases HQ0.out with ⟨h5,_⟩ | ⟨_,hb5,cq,cr,hv5,hl5⟩
             · have:=HU.out.1;omega
             · have h5:=div_unique hv5 (val_bound cr.1).1 hl5
               have h6:=div_unique (n:=val zs) (d:=val us) (q:=(binom N (j+1):Int)) (r:=0) (by rw [HZ.out,HU.out.1,Int.add_zero]) (by omega) (by rw [HU.out.1];omega);exact ⟨cq,by rw [h5.1,h6.1]⟩
            clear HQ0;have rq:=oq.rd
            go_wp2_with fail
            refine (refOne_any _).mono ?_;rintro e w6 ⟨es,p9,q9,HE,rfl,oe,k6⟩;have t6:Below wq.heap.size wq w6:=t5.trans (k6.mono t5.size);have le1:es.length≤1:=by rw [HE.out];exact Nat.le_refl _
            replace ru:=(ru.below k6).mono k6.size;replace rt:=(rt.below k6).mono k6.size;replace rq:=(rq.below k6).mono k6.size
            go_wp2_with fail
            refine (refMinus_any rt (Nat.le_refl _) oe.rd (Nat.le_refl _) (by omega) (by omega)).mono ?_;rintro e w7 ⟨k7,hm⟩;rw [if_neg (by rw [HV.out.2.2,HE.out,one_val];omega)] at hm;obtain ⟨ms,p10,q10,cm,vm,rfl,om⟩:=hm;have t7:Below wq.heap.size wq w7:=t6.trans (k7.mono t6.size);replace ru:=(ru.below k7).mono k7.size;replace rq:=(rq.below k7).mono k7.size;have HM:Hid (val ms=(N:Int) - ((j+1:Nat):Int)):=by unfold Hid;rw [vm,HV.out.2.2,HE.out,one_val];omega
            have lm:ms.length≤32:=by
             rw [can_len_pw cm,vm];have h5:=(can_len_pw hct 32).1 lt;rw [HE.out,one_val];omega
            clear vm;have lu2:us.length≤32:=by
             rw [can_len_pw HU.out.2,HU.out.1];have h5:=(can_len_pw HLc.out 32).1 l9;rw [HLv.out] at h5;omega
            by_cases hbig:32<qs.length
            · have HB:Great (binom N L):=by
               constructor;have h5:¬ val qs<pw 32:=fun h=>by have:=(can_len_pw HQ.out.1 32).2 h;omega
               have h6:=binom_below hcond (L - (j+1)) (j+1) (by omega);rw [HQ.out.2] at h5;omega
              have R4:=R.below t7;have q0:=R4.box.c0;have q1':=R4.box.c1;have q2':=R4.box.c2;have p0:=R4.box.f0;have p1':=R4.box.f1;have p2':=R4.box.f2;go_wp2
              have hR3:=R4.box.set (.bool false) (.slice none 0 0) (.slice none 0 0);have r0:=hR3.c0;have r1:=hR3.c1;have r2:=hR3.c2
              try simp only [Exit.inBlock,Exit.then]
              refine bodyPost_ret (v:=.tuple #[.agg #[.bool false,.slice none 0 0,.slice none 0 0],.int .i64 8]) ?_ rfl ?_
              · simp [results,Tryz.results40,go_sem,r0,r1,r2]
              exact ⟨false,[],[],8,Or.inr (Or.inr (Or.inl ⟨⟨hx.out,hy.out⟩,HCC.out,by rw [← HNn.out.1,← HKn.out.1,← HLL.out.2];exact HB.is,rfl,rfl,rfl,rfl⟩)),Below.set3 (g.trans (t7.mono g.size)) sr _ _ _,none,0,none,0,rfl,nil_rd _,nil_rd _⟩
            · go_wp2
              go_roundg (L - (j+1))
              case rel=>exact ⟨j+1,qs,us,ms,p6,q6,p4,q4,p10,q10,rfl,rfl,rfl,rfl,by omega,HQ.out.1,HU.out.2,cm,⟨HQ.out.2,by rw [HU.out.1];rfl,HM.out⟩,by omega,lu2,lm,rq,ru,om.rd,t7⟩
              case measure=>rw [hgk.out];omega
          · obtain rfl:j=L:=by omega
            rw [cmpI_eq (rfl:(j:Int)=(j:Int))]
            go_wp2_with fail
            refine (refOne_any _).mono ?_;rintro e w2 ⟨ds,p7,q7,HD,rfl,od,k2⟩;have t2:Below wq.heap.size wq w2:=t1.trans (k2.mono t1.size);have ld:ds.length≤10000:=by rw [HD.out];simp
            replace rc:=(rc.below k2).mono k2.size
            go_wp2_with fail
            refine (refMake_rat rc od.rd (by omega) ld (by rw [HD.out,one_val];decide)).mono ?_;intro e w3 hm6;rw [HD.out,one_val,sg_false,HV.out.1] at hm6;obtain ⟨bm6,b6,x5,n5,y5,x6,n6,y6,err,rfl,hform⟩:=(RMakes.from' t2 hm6).form;have RF:=R.below bm6;have q0:=RF.box.c0;have q1':=RF.box.c1;have q2':=RF.box.c2;have p0:=RF.box.f0;have p1':=RF.box.f1;have p2':=RF.box.f2;go_wp2
            have hR3:=RF.box.set (.bool b6) (.slice x5 n5 y5) (.slice x6 n6 y6);have r0:=hR3.c0;have r1:=hR3.c1;have r2:=hR3.c2
            try simp only [Exit.inBlock,Exit.then]
            refine bodyPost_ret (v:=.tuple #[.agg #[.bool b6,.slice x5 n5 y5,.slice x6 n6 y6],.int .i64 err]) ?_ rfl ?_
            · simp [results,Tryz.results40,go_sem,r0,r1,r2]
            have hfin:=rmakes_count (P:=RightP bx xn xd∧RightP cy yn yd) (C:=IsCount bx xd∧IsCount cy yd) ⟨hx.out,hy.out⟩ HCC.out (binom_pos (n:=N) (k:=j) (by omega)) (rform_done g sr R.lt bm6 hform);rw [← HNn.out.1,← HKn.out.1,← HLL.out.2];exact hfin
       · rw [cmpI_gt hc]
         obtain ⟨L,hLe⟩:∃ L,L=K:=⟨_,rfl⟩;have HLv:Hid (val xn=(L:Int)):=by unfold Hid;rw [hLe];exact HKn.out.2
         have HLc:Hid (can xn):=hx.out.2.2.1;have HLL:Hid (2*L≤N∧binom N L=binom N K):=⟨by omega,by rw [hLe]⟩;have LS:=X.rn;clear hc hLe;have hcond:2*L≤N:=HLL.out.1;have l9:xn.length≤32:=by rw [can_len_pw HLc.out];rw [HLv.out];have h5:=(can_len_pw hy.out.2.2.1 32).1 l3;rw [HNn.out.2] at h5;omega
         obtain ⟨Y0,Y1,Y2⟩:=Y.cells
         go_wp2_with fail
         clear Y0 Y1 Y2;refine (refOne_any _).mono ?_;rintro e wq ⟨t0,p1,q1,HS0,rfl,os0,kq⟩;replace LS:=(LS.below kq).mono kq.size;replace X:=X.below kq;replace Y:=Y.below kq;replace R:=R.below kq;replace g:=g.trans (kq.mono g.size);clear kq;have c0:Hid (can t0∧t0.length≤32∧val t0=1):=by
          unfold Hid;rw [HS0.out];exact ⟨can_one,by simp,one_val⟩
         have rs0:=os0.rd;obtain ⟨Y0,Y1,Y2⟩:=Y.cells;go_wp2
         clear Y0 Y1 Y2
         go_loopg [9,10,11] L (fun gk cv iv tv wr=>∃ (j:Nat) (cs is ts:List Int) (a:Option Addr) (c:Nat) (a':Option Addr) (c':Nat) (a'':Option Addr) (c'':Nat),Hid (gk=L - j)∧cv=.slice a cs.length c∧iv=.slice a' is.length c'∧tv=.slice a'' ts.length c''∧j≤L∧can cs∧can is∧can ts∧Hid (val cs=(binom N j:Int)∧val is=(j:Int)∧val ts=(N:Int) - (j:Int))∧cs.length≤32∧is.length≤32∧ts.length≤32∧Rd wr.heap.size wr (.slice a cs.length c) cs∧Rd wr.heap.size wr (.slice a' is.length c') is∧Rd wr.heap.size wr (.slice a'' ts.length c'') ts∧Below wq.heap.size wq wr)
         case atStart=>exact ⟨0,t0,[],yn,p1,q1,none,0,a3,c3,rfl,rfl,rfl,rfl,Nat.zero_le _,c0.out.1,⟨lim_nil,Or.inl rfl⟩,hy.out.2.2.1,⟨by rw [c0.out.2.2,binom_zero];rfl,rfl,by rw [HNn.out.2];omega⟩,c0.out.2.1,by simp,l3,rs0,nil_rd _,Y.rn,Below.refl _ _⟩
         case round=>
          obtain ⟨j,cs,is,ts,a,c,a',c',a'',c'',hgk,rfl,rfl,rfl,hj,hcs,hci,hct,HV,lc,li,lt,rc,ri,rt,tr⟩:=hrel;have LR:=(LS.below tr).mono tr.size
          go_wp2_with fail
          refine (refCompare_rd ri LR (Nat.le_refl _) (by omega) (by omega)).mono ?_;rintro e w1 ⟨rfl,k1⟩;have t1:Below wq.heap.size wq w1:=tr.trans (k1.mono tr.size);rw [HV.out.2.1,HLv.out];replace rc:=(rc.below k1).mono k1.size;replace ri:=(ri.below k1).mono k1.size;replace rt:=(rt.below k1).mono k1.size;by_cases hlt:j<L
          · rw [cmpI_lt (show (j:Int)<(L:Int) by omega)]
            go_wp2_with fail
            refine (refOne_any _).mono ?_;rintro e w2 ⟨ds,p7,q7,HD,rfl,od,k2⟩;have t2:Below wq.heap.size wq w2:=t1.trans (k2.mono t1.size);have ld:ds.length≤1:=by rw [HD.out];exact Nat.le_refl _
            replace rc:=(rc.below k2).mono k2.size;replace ri:=(ri.below k2).mono k2.size;replace rt:=(rt.below k2).mono k2.size
            go_wp2_with fail
            refine (refAdd_any ri (Nat.le_refl _) od.rd (Nat.le_refl _) (by omega) (by omega)).mono ?_;rintro e w3 ⟨us,cu,vu,lu,p4,q4,rfl,ou,k3⟩;have t3:Below wq.heap.size wq w3:=t2.trans (k3.mono t2.size);replace rc:=(rc.below k3).mono k3.size;replace rt:=(rt.below k3).mono k3.size;have HU:Hid (val us=(j:Int)+1∧can us):=⟨by rw [vu,HV.out.2.1,HD.out,one_val],cu⟩;clear vu cu;have ru:=ou.rd
            go_wp2_with fail
            refine (refMul_any rc (Nat.le_refl _) rt (Nat.le_refl _) (by omega) (by omega)).mono ?_;rintro e w4 ⟨zs,cz,vz,lz,p5,q5,rfl,oz,k4⟩;have t4:Below wq.heap.size wq w4:=t3.trans (k4.mono t3.size);replace ru:=(ru.below k4).mono k4.size;replace rt:=(rt.below k4).mono k4.size;have HZ:Hid (val zs=(binom N (j+1):Int)*((j:Int)+1)):=by
             unfold Hid;rw [vz,HV.out.1,HV.out.2.2];have h5:=binom_up (n:=N) (j:=j) (by omega);have h6:((binom N (j+1)*(j+1):Nat):Int)=((binom N j*(N - j):Nat):Int):=by rw [h5]
             rw [Int.natCast_mul,Int.natCast_mul,Int.natCast_sub (by omega)] at h6;exact h6.symm
            clear vz
            go_wp2_with fail
            refine (refDivMod_form oz.rd (Nat.le_refl _) ru (Nat.le_refl _) (by omega) (by omega)).mono ?_;rintro e w5 ⟨qs,rs,p6,q6,p8,q8,bq,rfl,oq,or,HQ0,k5⟩;have t5:Below wq.heap.size wq w5:=t4.trans (k5.mono t4.size);replace ru:=(ru.below k5).mono k5.size;replace rt:=(rt.below k5).mono k5.size;have HQ:Hid (can qs∧val qs=(binom N (j+1):Int)):=by
             rcases HQ0.out with ⟨h5,_⟩ | ⟨_,hb5,cq,cr,hv5,hl5⟩
             · have:=HU.out.1;omega
             · have h5:=div_unique hv5 (val_bound cr.1).1 hl5
               have h6:=div_unique (n:=val zs) (d:=val us) (q:=(binom N (j+1):Int)) (r:=0) (by rw [HZ.out,HU.out.1,Int.add_zero]) (by omega) (by rw [HU.out.1];omega);exact ⟨cq,by rw [h5.1,h6.1]⟩
            clear HQ0;have rq:=oq.rd
            go_wp2_with fail
            refine (refOne_any _).mono ?_;rintro e w6 ⟨es,p9,q9,HE,rfl,oe,k6⟩;have t6:Below wq.heap.size wq w6:=t5.trans (k6.mono t5.size);have le1:es.length≤1:=by rw [HE.out];exact Nat.le_refl _
            replace ru:=(ru.below k6).mono k6.size;replace rt:=(rt.below k6).mono k6.size;replace rq:=(rq.below k6).mono k6.size
            go_wp2_with fail
            refine (refMinus_any rt (Nat.le_refl _) oe.rd (Nat.le_refl _) (by omega) (by omega)).mono ?_;rintro e w7 ⟨k7,hm⟩;rw [if_neg (by rw [HV.out.2.2,HE.out,one_val];omega)] at hm;obtain ⟨ms,p10,q10,cm,vm,rfl,om⟩:=hm;have t7:Below wq.heap.size wq w7:=t6.trans (k7.mono t6.size);replace ru:=(ru.below k7).mono k7.size;replace rq:=(rq.below k7).mono k7.size;have HM:Hid (val ms=(N:Int) - ((j+1:Nat):Int)):=by unfold Hid;rw [vm,HV.out.2.2,HE.out,one_val];omega
            have lm:ms.length≤32:=by
             rw [can_len_pw cm,vm];have h5:=(can_len_pw hct 32).1 lt;rw [HE.out,one_val];omega
            clear vm;have lu2:us.length≤32:=by
             rw [can_len_pw HU.out.2,HU.out.1];have h5:=(can_len_pw HLc.out 32).1 l9;rw [HLv.out] at h5;omega
            by_cases hbig:32<qs.length
            · have HB:Great (binom N L):=by
               constructor;have h5:¬ val qs<pw 32:=fun h=>by have:=(can_len_pw HQ.out.1 32).2 h;omega
               have h6:=binom_below hcond (L - (j+1)) (j+1) (by omega);rw [HQ.out.2] at h5;omega
              have R4:=R.below t7;have q0:=R4.box.c0;have q1':=R4.box.c1;have q2':=R4.box.c2;have p0:=R4.box.f0;have p1':=R4.box.f1;have p2':=R4.box.f2;go_wp2
              have hR3:=R4.box.set (.bool false) (.slice none 0 0) (.slice none 0 0);have r0:=hR3.c0;have r1:=hR3.c1;have r2:=hR3.c2
              try simp only [Exit.inBlock,Exit.then]
              refine bodyPost_ret (v:=.tuple #[.agg #[.bool false,.slice none 0 0,.slice none 0 0],.int .i64 8]) ?_ rfl ?_
              · simp [results,Tryz.results40,go_sem,r0,r1,r2]
              exact ⟨false,[],[],8,Or.inr (Or.inr (Or.inl ⟨⟨hx.out,hy.out⟩,HCC.out,by rw [← HNn.out.1,← HKn.out.1,← HLL.out.2];exact HB.is,rfl,rfl,rfl,rfl⟩)),Below.set3 (g.trans (t7.mono g.size)) sr _ _ _,none,0,none,0,rfl,nil_rd _,nil_rd _⟩
            · go_wp2
              go_roundg (L - (j+1))
              case rel=>exact ⟨j+1,qs,us,ms,p6,q6,p4,q4,p10,q10,rfl,rfl,rfl,rfl,by omega,HQ.out.1,HU.out.2,cm,⟨HQ.out.2,by rw [HU.out.1];rfl,HM.out⟩,by omega,lu2,lm,rq,ru,om.rd,t7⟩
              case measure=>rw [hgk.out];omega
          · obtain rfl:j=L:=by omega
            rw [cmpI_eq (rfl:(j:Int)=(j:Int))]
            go_wp2_with fail
            refine (refOne_any _).mono ?_;rintro e w2 ⟨ds,p7,q7,HD,rfl,od,k2⟩;have t2:Below wq.heap.size wq w2:=t1.trans (k2.mono t1.size);have ld:ds.length≤10000:=by rw [HD.out];simp
            replace rc:=(rc.below k2).mono k2.size
            go_wp2_with fail
            refine (refMake_rat rc od.rd (by omega) ld (by rw [HD.out,one_val];decide)).mono ?_;intro e w3 hm6;rw [HD.out,one_val,sg_false,HV.out.1] at hm6;obtain ⟨bm6,b6,x5,n5,y5,x6,n6,y6,err,rfl,hform⟩:=(RMakes.from' t2 hm6).form;have RF:=R.below bm6;have q0:=RF.box.c0;have q1':=RF.box.c1;have q2':=RF.box.c2;have p0:=RF.box.f0;have p1':=RF.box.f1;have p2':=RF.box.f2;go_wp2
            have hR3:=RF.box.set (.bool b6) (.slice x5 n5 y5) (.slice x6 n6 y6);have r0:=hR3.c0;have r1:=hR3.c1;have r2:=hR3.c2
            try simp only [Exit.inBlock,Exit.then]
            refine bodyPost_ret (v:=.tuple #[.agg #[.bool b6,.slice x5 n5 y5,.slice x6 n6 y6],.int .i64 err]) ?_ rfl ?_
            · simp [results,Tryz.results40,go_sem,r0,r1,r2]
            have hfin:=rmakes_count (P:=RightP bx xn xd∧RightP cy yn yd) (C:=IsCount bx xd∧IsCount cy yd) ⟨hx.out,hy.out⟩ HCC.out (binom_pos (n:=N) (k:=j) (by omega)) (rform_done g sr R.lt bm6 hform);rw [← HNn.out.1,← HKn.out.1,← HLL.out.2];exact hfin
end
end Go.Proofs.YtilbfkabfgnhpaaGreat
