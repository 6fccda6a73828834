/- The document's Power. -/
import Derived.Test.YtilbfkabfgnhpaaGreatU2
import Derived.Test.YtilbfkabfgnhpaaGreatU5
import Derived.Deep.Cut
import Derived.Deep.CutRange
import Derived.Deep.RegionHeld3
set_option maxRecDepth 100000
set_option maxHeartbeats 32000000
set_option linter.unusedVariables false
set_option linter.unusedSimpArgs false
namespace Go.Proofs.YtilbfkabfgnhpaaGreat
open Go.RowKit
section
variable {w:World} {bx cy:Bool} {a1 a2 a3 a4:Option Addr} {c1 c2 c3 c4:Nat} {xn xd yn yd:List Int}
theorem refPower_rat (h1:Rd w.heap.size w (.slice a1 xn.length c1) xn) (h2:Rd w.heap.size w (.slice a2 xd.length c2) xd) (h3:Rd w.heap.size w (.slice a3 yn.length c3) yn) (h4:Rd w.heap.size w (.slice a4 yd.length c4) yd) :
    Calls Tryz.prog 39 #[.agg #[.bool bx,.slice a1 xn.length c1,.slice a2 xd.length c2],.agg #[.bool cy,.slice a3 yn.length c3,.slice a4 yd.length c4]] w fun e w'=>∃ c ns ds err,Hid (PowSpec (RightP bx xn xd∧RightP cy yn yd) bx xn xd cy yn yd c ns ds err)∧RAns w c ns ds err e w':=by
 obtain ⟨X,Y,R,g⟩:=in2_r (bx:=bx) (cy:=cy) w h1 h2 h3 h4;have sr:w.heap.size≤w.heap.size+1+1:=by omega
 have nx:w.heap.size≠w.heap.size+1+1:=by omega
 have ny:w.heap.size+1≠w.heap.size+1+1:=by omega
 clear h1 h2 h3 h4;go_enter Tryz.func39,Tryz.ntmps39;obtain ⟨X0,X1,X2⟩:=X.cells
 go_wp2_with fail
 clear X0 X1 X2;generalize hA:((w.alloc (.cells #[.bool bx,.slice a1 xn.length c1,.slice a2 xd.length c2] 24)).alloc (.cells #[.bool cy,.slice a3 yn.length c3,.slice a4 yd.length c4] 24)).alloc (.cells #[.bool false,.slice none 0 0,.slice none 0 0] 24)=v at *;clear hA;refine (refRight_rat X.rn X.rd).mono ?_;rintro e wa ⟨⟨r,rfl,hr⟩,ka⟩;replace X:=X.below ka;replace Y:=Y.below ka;replace R:=R.below ka;replace g:=g.trans (ka.mono g.size);clear ka
 cases r with
 | false=>
  have HP:Hid (¬ RightP bx xn xd):=fun h=>by have:=hr.2 h;cases this
  clear hr;have q0:=R.box.c0;have q1:=R.box.c1;have q2:=R.box.c2;have p0:=R.box.f0;have p1:=R.box.f1;have p2:=R.box.f2;go_wp2
  have hR3:=R.box.set (.bool false) (.slice none 0 0) (.slice none 0 0);have r0:=hR3.c0;have r1:=hR3.c1;have r2:=hR3.c2;refine bodyPost_ret (v:=.tuple #[.agg #[.bool false,.slice none 0 0,.slice none 0 0],.int .i64 22]) (by simp [results,Tryz.results39,go_sem,r0,r1,r2]) rfl ?_;exact ⟨false,[],[],22,Or.inl ⟨fun h=>HP.out h.1,rfl,rfl,rfl,rfl⟩,Below.set3 g sr _ _ _,none,0,none,0,rfl,nil_rd _,nil_rd _⟩
 | true=>
  have hx:Hid (RightP bx xn xd):=hr.1 rfl;clear hr;obtain ⟨Y0,Y1,Y2⟩:=Y.cells
  go_wp2_with fail
  clear Y0 Y1 Y2;refine (refRight_rat Y.rn Y.rd).mono ?_;rintro e wb ⟨⟨r,rfl,hr⟩,kb⟩;replace X:=X.below kb;replace Y:=Y.below kb;replace R:=R.below kb;replace g:=g.trans (kb.mono g.size);clear kb
  cases r with
  | false=>
   have HP:Hid (¬ RightP cy yn yd):=fun h=>by have:=hr.2 h;cases this
   clear hr;have q0:=R.box.c0;have q1:=R.box.c1;have q2:=R.box.c2;have p0:=R.box.f0;have p1:=R.box.f1;have p2:=R.box.f2;go_wp2
   have hR3:=R.box.set (.bool false) (.slice none 0 0) (.slice none 0 0);have r0:=hR3.c0;have r1:=hR3.c1;have r2:=hR3.c2;refine bodyPost_ret (v:=.tuple #[.agg #[.bool false,.slice none 0 0,.slice none 0 0],.int .i64 22]) (by simp [results,Tryz.results39,go_sem,r0,r1,r2]) rfl ?_;exact ⟨false,[],[],22,Or.inl ⟨fun h=>HP.out h.2,rfl,rfl,rfl,rfl⟩,Below.set3 g sr _ _ _,none,0,none,0,rfl,nil_rd _,nil_rd _⟩
  | true=>
   have hy:Hid (RightP cy yn yd):=hr.1 rfl;clear hr;have l1:=hx.out.1;have l2:=hx.out.2.1;have l3:=hy.out.1;have l4:=hy.out.2.1;obtain ⟨Y0,Y1,Y2⟩:=Y.cells
   go_wp2_with fail
   clear Y0 Y1 Y2;refine (refIsInt_rat Y.rn Y.rd).mono ?_;rintro e wd ⟨⟨r,rfl,hr⟩,kd⟩;replace X:=X.below kd;replace Y:=Y.below kd;replace R:=R.below kd;replace g:=g.trans (kd.mono g.size);clear kd
   cases r with
   | false=>
    have HC:Hid (¬ yd=[1]):=fun h=>by have:=hr.2 ⟨hy.out,h⟩;cases this
    clear hr;have q0:=R.box.c0;have q1:=R.box.c1;have q2:=R.box.c2;have p0:=R.box.f0;have p1:=R.box.f1;have p2:=R.box.f2;go_wp2
    have hR3:=R.box.set (.bool false) (.slice none 0 0) (.slice none 0 0);have r0:=hR3.c0;have r1:=hR3.c1;have r2:=hR3.c2;refine bodyPost_ret (v:=.tuple #[.agg #[.bool false,.slice none 0 0,.slice none 0 0],.int .i64 3]) (by simp [results,Tryz.results39,go_sem,r0,r1,r2]) rfl ?_;exact ⟨false,[],[],3,Or.inr (Or.inl ⟨⟨hx.out,hy.out⟩,Or.inl HC.out,rfl,rfl,rfl,rfl⟩),Below.set3 g sr _ _ _,none,0,none,0,rfl,nil_rd _,nil_rd _⟩
   | true=>
    have HO:Hid (yd=[1]):=(hr.1 rfl).2;clear hr;by_cases hy0:0<yn.length
    · have hyb:((yn.length:Int)==0)=false:=by rw [beq_eq_false_iff_ne];omega
      by_cases hx0:0<xn.length
      · have hxb:((xn.length:Int)==0)=false:=by rw [beq_eq_false_iff_ne];omega
        have HXZ:Hid (¬ (xn.length=0∧cy=true)):=fun h=>by have:=h.1;omega
        have HXZ2:Hid (¬ (0<yn.length∧xn.length=0∧cy=true)):=fun h=>by have:=h.2.1;omega
        have HYv:Hid (0<val yn):=by
         have h5:=can_low hy.out.2.2.1 hy0;have h6:=pw_pos (yn.length - 1);unfold Hid;omega
        have HXp:Hid (0<val xn):=by
         have h5:=can_low hx.out.2.2.1 hx0;have h6:=pw_pos (xn.length - 1);unfold Hid;omega
        obtain ⟨N,HN⟩:∃ N:Nat,Hid (N=(val yn).toNat∧val yn=(N:Int)):=⟨(val yn).toNat,rfl,by have:=(right_pos hy.out).2;omega⟩;obtain ⟨pb,po,rfl,hyc,hym⟩:=rd_head Y.rn hy0;have ho:=val_odd hy.out.2.2.1.1;have hw1:=and_one_u32 (yn.getD 0 0) ho.2.1 ho.2.2;have hc0:=rd_cell0 Y.rn hy0;have HOd:Hid ((yn.getD 0 0 % 2==1)=decide (N % 2=1)):=by
         unfold Hid;have h5:=HN.out.2;by_cases h6:yn.getD 0 0 % 2=1
         · rw [beq_iff_eq.2 h6,decide_eq_true (by omega)]
         · rw [beq_eq_false_iff_ne.2 h6,decide_eq_false (by omega)]
        clear ho;generalize hy00:yn.getD 0 0=y00 at *;clear hy00;obtain ⟨X0,X1,X2⟩:=X.cells;obtain ⟨Y0,Y1,Y2⟩:=Y.cells
        go_upto_region 12 with fail
        go_cut [7] from 57 to 61 (fun c wx=>c=.bool (bx && (y00 % 2==1))∧wx=wd)
        case first=>
         cases bx with
         | false=>go_wp2_with fail;go_meet;exact ⟨rfl,rfl⟩
         | true=>go_wp2_with fail;go_meet;exact ⟨rfl,rfl⟩
        case rest=>
        obtain ⟨rfl,rfl⟩:=hcut;have HSG0:Hid (∀ V:Int,sg bx V ^ N=sg (bx && (y00 % 2==1)) (V ^ N)):=fun V=>by rw [sg_pow,← HOd.out]
        obtain ⟨ob,HOB⟩:∃ ob,Hid (ob=(bx && (y00 % 2==1))):=⟨_,rfl⟩;have HSG:Hid (∀ V:Int,sg bx V ^ N=sg ob (V ^ N)):=by rw [HOB.out];exact HSG0.out
        rw [← HOB.out];clear HSG0 HOB HOd hw1;clear X0 X1 X2 Y0 Y1 Y2
        go_upto_region 13 with fail
        go_cut [71] from 62 to 71 (fun c wx=>c=.bool (decide (xn=[1]∧xd=[1]))∧Below wc.heap.size wc wx)
        case first=>
         have hcells:∀ {w':World},Below wc.heap.size wc w'→w'.cell? ⟨w.heap.size,0,none⟩=some (.bool bx)∧w'.cell? ⟨w.heap.size,1,none⟩=some (.slice a1 xn.length c1)∧w'.cell? ⟨w.heap.size,2,none⟩=some (.slice a2 xd.length c2):=fun hb=>(X.below hb).cells;obtain ⟨X0,X1,X2⟩:=X.cells;by_cases hone:xn=[1]
         · have HX1:Hid (xn=[1]):=hone
           clear hone;by_cases hone:xd=[1]
           · have HX2:Hid (xd=[1]):=hone
             clear hone
             go_region_held3 (fun w'=>w'.cell? ⟨w.heap.size,0,none⟩=some (.bool bx)∧w'.cell? ⟨w.heap.size,1,none⟩=some (.slice a1 xn.length c1)∧w'.cell? ⟨w.heap.size,2,none⟩=some (.slice a2 xd.length c2))
              (first | (go_keep;done) | exact tw1 | exact tw2 | exact tw3 | exact tw4)
              (first
               | (have j:=tw3;go_at_call_of 30 (Value.slice a2 xd.length c2);refine (refSame_any (X.below t3).rd od2.rd).mono ?_;rintro e u4 ⟨rfl,j4⟩;have t4:Below wc.heap.size wc u4:=t3.trans (j4.mono t3.size);have tw4:=hcells t4;have he2:decide (xd=ds2)=true:=(decide_eq_true (HX2.out.trans HD2.out.symm));rw [he2])
               | (have j:=tw2;go_at_call 61;refine (refOne_any _).mono ?_;rintro e u3 ⟨ds2,o2,oc2,HD2,rfl,od2,j3⟩;have t3:Below wc.heap.size wc u3:=t2.trans (j3.mono t2.size);have tw3:=hcells t3)
               | (have j:=tw1;go_at_call_of 30 (Value.slice a1 xn.length c1);refine (refSame_any (X.below t1).rn od1.rd).mono ?_;rintro e u2 ⟨rfl,j2⟩;have t2:Below wc.heap.size wc u2:=t1.trans (j2.mono t1.size);have tw2:=hcells t2;have he1:decide (xn=ds1)=true:=(decide_eq_true (HX1.out.trans HD1.out.symm));rw [he1])
               | (go_at_call 61;refine (refOne_any wc.drew).mono ?_;rintro e u1 ⟨ds1,o1,oc1,HD1,rfl,od1,j1⟩;have t1:Below wc.heap.size wc u1:=below_undrew (w:=wc) (B:=wc.heap.size) j1;have tw1:=hcells t1))
             all_goals
              go_wp2_with fail
              go_meet
              exact ⟨by rw [decide_eq_true ⟨HX1.out,HX2.out⟩],t4⟩
           · have HX2:Hid (¬ xd=[1]):=hone
             clear hone
             go_region_held3 (fun w'=>w'.cell? ⟨w.heap.size,0,none⟩=some (.bool bx)∧w'.cell? ⟨w.heap.size,1,none⟩=some (.slice a1 xn.length c1)∧w'.cell? ⟨w.heap.size,2,none⟩=some (.slice a2 xd.length c2))
              (first | (go_keep;done) | exact tw1 | exact tw2 | exact tw3 | exact tw4)
              (first
               | (have j:=tw3;go_at_call_of 30 (Value.slice a2 xd.length c2);refine (refSame_any (X.below t3).rd od2.rd).mono ?_;rintro e u4 ⟨rfl,j4⟩;have t4:Below wc.heap.size wc u4:=t3.trans (j4.mono t3.size);have tw4:=hcells t4;have he2:decide (xd=ds2)=false:=(decide_eq_false (fun h=>HX2.out (h.trans HD2.out)));rw [he2])
               | (have j:=tw2;go_at_call 61;refine (refOne_any _).mono ?_;rintro e u3 ⟨ds2,o2,oc2,HD2,rfl,od2,j3⟩;have t3:Below wc.heap.size wc u3:=t2.trans (j3.mono t2.size);have tw3:=hcells t3)
               | (have j:=tw1;go_at_call_of 30 (Value.slice a1 xn.length c1);refine (refSame_any (X.below t1).rn od1.rd).mono ?_;rintro e u2 ⟨rfl,j2⟩;have t2:Below wc.heap.size wc u2:=t1.trans (j2.mono t1.size);have tw2:=hcells t2;have he1:decide (xn=ds1)=true:=(decide_eq_true (HX1.out.trans HD1.out.symm));rw [he1])
               | (go_at_call 61;refine (refOne_any wc.drew).mono ?_;rintro e u1 ⟨ds1,o1,oc1,HD1,rfl,od1,j1⟩;have t1:Below wc.heap.size wc u1:=below_undrew (w:=wc) (B:=wc.heap.size) j1;have tw1:=hcells t1))
             all_goals
              go_wp2_with fail
              go_meet
              exact ⟨by rw [decide_eq_false (fun h=>HX2.out h.2)],t4⟩
         · have HX1:Hid (¬ xn=[1]):=hone
           clear hone
           first
           | go_region_with (first
               | (have j:=tw1;go_at_call_of 30 (Value.slice a1 xn.length c1);refine (refSame_any (X.below t1).rn od1.rd).mono ?_;rintro e u2 ⟨rfl,j2⟩;have t2:Below wc.heap.size wc u2:=t1.trans (j2.mono t1.size);have tw2:=hcells t2;have he1:decide (xn=ds1)=false:=(decide_eq_false (fun h=>HX1.out (h.trans HD1.out)));rw [he1])
               | (go_at_call 61;refine (refOne_any wc.drew).mono ?_;rintro e u1 ⟨ds1,o1,oc1,HD1,rfl,od1,j1⟩;have t1:Below wc.heap.size wc u1:=below_undrew (w:=wc) (B:=wc.heap.size) j1;have tw1:=hcells t1))
           | fail
           all_goals
            go_wp2_with fail
            go_meet
            exact ⟨by rw [decide_eq_false (fun h=>HX1.out h.1)],t2⟩
        case rest=>
        obtain ⟨rfl,t13⟩:=hcut;replace X:=X.below t13;replace Y:=Y.below t13;replace R:=R.below t13;replace g:=g.trans (t13.mono g.size);clear t13;by_cases hone:xn=[1]∧xd=[1]
        · rw [decide_eq_true hone]
          have HX1:Hid (xn=[1]):=hone.1;have HX2:Hid (xd=[1]):=hone.2;clear hone;have R1:=R
          go_wp2_with fail
          refine (refOne_any _).mono ?_;rintro e wo3 ⟨ds3,o3,oc3,HD3,rfl,od3,ko3⟩;replace X:=X.below ko3;replace Y:=Y.below ko3;replace R:=R.below ko3;replace g:=g.trans (ko3.mono g.size);have R2:=R
          go_wp2_with fail
          refine (refOne_any _).mono ?_;rintro e wo4 ⟨ds4,o4,oc4,HD4,rfl,od4,ko4⟩;replace X:=X.below ko4;replace Y:=Y.below ko4;replace R:=R.below ko4;replace g:=g.trans (ko4.mono g.size);have od3':=od3.below ko4 (Nat.le_refl _);have HS:=pow_fin (b:=ob) (A:=1) (D:=1) (N:=N) (zs:=ds3) (us:=ds4) (by rw [HD3.out];exact can_one) (by rw [HD4.out];exact can_one) (by rw [HD3.out,Int.one_pow];rfl) (by rw [HD4.out,Int.one_pow];rfl) (by decide) (by decide) (by decide) (by rw [Int.one_pow];exact one_lt_pw) (by rw [Int.one_pow];exact one_lt_pw);have HPN:Hid (pnum cy xn xd=1∧pden cy xn xd=1):=by
           unfold Hid pnum pden;rw [HX1.out,HX2.out]
           cases cy <;> exact ⟨rfl,rfl⟩
          have HSS:Hid (RightP ob ds3 ds4∧sg ob (val ds3)=sg ob (1 ^ N)):=HS;clear HS;have q0:=R.box.c0;have q1:=R.box.c1;have q2:=R.box.c2;have p0:=R.box.f0;have p1:=R.box.f1;have p2:=R.box.f2;go_wp2
          have hR3:=R.box.set (.bool ob) (.slice o3 ds3.length oc3) (.slice o4 ds4.length oc4);have r0:=hR3.c0;have r1:=hR3.c1;have r2:=hR3.c2;refine bodyPost_ret (v:=.tuple #[.agg #[.bool ob,.slice o3 ds3.length oc3,.slice o4 ds4.length oc4],.int .i64 0]) (by simp [results,Tryz.results39,go_sem,r0,r1,r2]) rfl ?_;exact ⟨ob,ds3,ds4,0,Or.inr (Or.inr (Or.inr ⟨⟨hx.out,hy.out⟩,HO.out,(by first | exact HXZ2.out | (have h5:=HXZ2.out;simpa using h5)),(by rw [HPN.out.1,Int.one_pow];exact one_lt_pw),(by rw [HPN.out.2,Int.one_pow];exact one_lt_pw),rfl,HSS.out.1,(by rw [← HN.out.1,HPN.out.1,HSS.out.2];exact (HSG.out _).symm),(by rw [HPN.out.2,Int.one_pow,HD4.out];rfl)⟩)),Below.set3 g sr _ _ _,o3,oc3,o4,oc4,rfl,(Own.set3 od3' R1.lt _ _ _).rd,(Own.set3 od4 R2.lt _ _ _).rd⟩
        · rw [decide_eq_false hone]
          have HNE:Hid (¬ (xn=[1]∧xd=[1])):=hone;clear hone;obtain ⟨X0,X1,X2⟩:=X.cells;obtain ⟨Y0,Y1,Y2⟩:=Y.cells
          go_wp2_with fail
          clear X0 X1 X2 Y0 Y1 Y2;refine (refSmall_any Y.rn (by omega)).mono ?_;rintro e wc ⟨rfl,kc⟩;replace X:=X.below kc;replace Y:=Y.below kc;replace R:=R.below kc;replace g:=g.trans (kc.mono g.size);clear kc;rw [HN.out.2];by_cases hs:(N:Int)<9223372036854775808
          · rw [smallV_lt hs]
            by_cases hbig:1024<N
            · have HB:Hid (pw 32≤pnum cy xn xd ^ (val yn).toNat∨pw 32≤pden cy xn xd ^ (val yn).toNat):=pow_wide hx.out hx0 HNE.out (by rw [← HN.out.1];omega)
              have hd1:decide ((N:Int) > 1024)=true:=decide_eq_true (by omega);have q0:=R.box.c0;have q1:=R.box.c1;have q2:=R.box.c2;have p0:=R.box.f0;have p1:=R.box.f1;have p2:=R.box.f2;go_wp2
              have hR3:=R.box.set (.bool false) (.slice none 0 0) (.slice none 0 0);have r0:=hR3.c0;have r1:=hR3.c1;have r2:=hR3.c2;refine bodyPost_ret (v:=.tuple #[.agg #[.bool false,.slice none 0 0,.slice none 0 0],.int .i64 8]) (by simp [results,Tryz.results39,go_sem,r0,r1,r2]) rfl ?_;exact ⟨false,[],[],8,Or.inr (Or.inr (Or.inl ⟨⟨hx.out,hy.out⟩,HO.out,hy0,(by first | exact HXZ.out | (have h5:=HXZ.out;simpa using h5)),HB.out,rfl,rfl,rfl,rfl⟩)),Below.set3 g sr _ _ _,none,0,none,0,rfl,nil_rd _,nil_rd _⟩
            · have hd1:decide ((N:Int) > 1024)=false:=decide_eq_false (by omega)
              have g1:=g;have R1:=R;obtain ⟨X0,X1,X2⟩:=X.cells;obtain ⟨Y0,Y1,Y2⟩:=Y.cells
              go_wp2_with fail
              clear X0 X1 X2 Y0 Y1 Y2;have hcall:=refPower_walk N 32 (val xn ^ N) X.rn (Nat.le_refl _) (by omega) (by omega) (by decide) rfl;refine hcall.mono ?_;clear hcall;rintro e w2 ⟨k2,hno,hyes⟩;replace X:=X.below k2;replace Y:=Y.below k2;replace R:=R.below k2;replace g:=g.trans (k2.mono g.size);by_cases hf1:val xn ^ N<pw 32
              · obtain ⟨zs,z1,z2,cz,vz,rfl,oz⟩:=hyes hf1
                have HZ:Hid (can zs∧val zs=val xn ^ N∧val xn ^ N<pw 32):=⟨cz,vz,hf1⟩;clear hno hyes cz vz hf1;obtain ⟨X0,X1,X2⟩:=X.cells;obtain ⟨Y0,Y1,Y2⟩:=Y.cells
                go_wp2_with fail
                clear X0 X1 X2 Y0 Y1 Y2;have hcall:=refPower_walk N 32 (val xd ^ N) X.rd (Nat.le_refl _) (by omega) (by omega) (by decide) rfl;refine hcall.mono ?_;clear hcall;rintro e w3 ⟨k3,hno,hyes⟩;replace X:=X.below k3;replace Y:=Y.below k3;replace R:=R.below k3;replace g:=g.trans (k3.mono g.size);by_cases hf2:val xd ^ N<pw 32
                · obtain ⟨us,u1,u2,cu,vu,rfl,ou⟩:=hyes hf2
                  have HU:Hid (can us∧val us=val xd ^ N∧val xd ^ N<pw 32):=⟨cu,vu,hf2⟩;clear hno hyes cu vu hf2;have HV:Hid (0<val xn∧0<val xd∧gI (val xn) (val xd)=1):=⟨HXp.out,(right_pos hx.out).1,hx.out.2.2.2.2.2.2⟩;have ozz:=oz.below k3 (Nat.le_refl _);have ouu:Own w2.heap.size w3 (.slice u1 us.length u2) us:=ou;have R2:=R1.below k2
                  cases cy with
                  | false=>
                   have HS:=pow_fin (b:=ob) HZ.out.1 HU.out.1 HZ.out.2.1 HU.out.2.1 HV.out.1 HV.out.2.1 HV.out.2.2 HZ.out.2.2 HU.out.2.2;have HSS:Hid (RightP ob zs us∧sg ob (val zs)=sg ob (val xn ^ N)):=HS;clear HS;obtain ⟨X0,X1,X2⟩:=X.cells;obtain ⟨Y0,Y1,Y2⟩:=Y.cells;have q0:=R.box.c0;have q1:=R.box.c1;have q2:=R.box.c2;have p0:=R.box.f0;have p1:=R.box.f1;have p2:=R.box.f2;go_wp2
                   have hR3:=R.box.set (.bool ob) (.slice z1 zs.length z2) (.slice u1 us.length u2);have r0:=hR3.c0;have r1:=hR3.c1;have r2:=hR3.c2;refine bodyPost_ret (v:=.tuple #[.agg #[.bool ob,.slice z1 zs.length z2,.slice u1 us.length u2],.int .i64 0]) (by simp [results,Tryz.results39,go_sem,r0,r1,r2]) rfl ?_;exact ⟨ob,zs,us,0,Or.inr (Or.inr (Or.inr ⟨⟨hx.out,hy.out⟩,HO.out,(by first | exact HXZ2.out | (have h5:=HXZ2.out;simpa using h5)),(by rw [← HN.out.1];exact HZ.out.2.2),(by rw [← HN.out.1];exact HU.out.2.2),rfl,HSS.out.1,(by rw [← HN.out.1,HSS.out.2];exact (HSG.out _).symm),(by rw [← HN.out.1];exact HU.out.2.1)⟩)),Below.set3 g sr _ _ _,z1,z2,u1,u2,rfl,(Own.set3 ozz R1.lt _ _ _).rd,(Own.set3 ouu R2.lt _ _ _).rd⟩
                  | true=>
                   have HS:=pow_fin (b:=ob) HU.out.1 HZ.out.1 HU.out.2.1 HZ.out.2.1 HV.out.2.1 HV.out.1 (by rw [gI_comm];exact HV.out.2.2) HU.out.2.2 HZ.out.2.2;have HSS:Hid (RightP ob us zs∧sg ob (val us)=sg ob (val xd ^ N)):=HS;clear HS;obtain ⟨X0,X1,X2⟩:=X.cells;obtain ⟨Y0,Y1,Y2⟩:=Y.cells;have q0:=R.box.c0;have q1:=R.box.c1;have q2:=R.box.c2;have p0:=R.box.f0;have p1:=R.box.f1;have p2:=R.box.f2;go_wp2
                   have hR3:=R.box.set (.bool ob) (.slice u1 us.length u2) (.slice z1 zs.length z2);have r0:=hR3.c0;have r1:=hR3.c1;have r2:=hR3.c2;refine bodyPost_ret (v:=.tuple #[.agg #[.bool ob,.slice u1 us.length u2,.slice z1 zs.length z2],.int .i64 0]) (by simp [results,Tryz.results39,go_sem,r0,r1,r2]) rfl ?_;exact ⟨ob,us,zs,0,Or.inr (Or.inr (Or.inr ⟨⟨hx.out,hy.out⟩,HO.out,(by first | exact HXZ2.out | (have h5:=HXZ2.out;simpa using h5)),(by rw [← HN.out.1];exact HU.out.2.2),(by rw [← HN.out.1];exact HZ.out.2.2),rfl,HSS.out.1,(by rw [← HN.out.1,HSS.out.2];exact (HSG.out _).symm),(by rw [← HN.out.1];exact HZ.out.2.1)⟩)),Below.set3 g sr _ _ _,u1,u2,z1,z2,rfl,(Own.set3 ouu R2.lt _ _ _).rd,(Own.set3 ozz R1.lt _ _ _).rd⟩
                · have he:=hno (by omega)
                  subst he;have HB:Hid (pw 32≤pnum cy xn xd ^ (val yn).toNat∨pw 32≤pden cy xn xd ^ (val yn).toNat):=pow_big1 (by rw [← HN.out.1];exact Or.inr (by omega));clear hno hyes hf2;have q0:=R.box.c0;have q1:=R.box.c1;have q2:=R.box.c2;have p0:=R.box.f0;have p1:=R.box.f1;have p2:=R.box.f2;go_wp2
                  have hR3:=R.box.set (.bool false) (.slice none 0 0) (.slice none 0 0);have r0:=hR3.c0;have r1:=hR3.c1;have r2:=hR3.c2;refine bodyPost_ret (v:=.tuple #[.agg #[.bool false,.slice none 0 0,.slice none 0 0],.int .i64 8]) (by simp [results,Tryz.results39,go_sem,r0,r1,r2]) rfl ?_;exact ⟨false,[],[],8,Or.inr (Or.inr (Or.inl ⟨⟨hx.out,hy.out⟩,HO.out,hy0,(by first | exact HXZ.out | (have h5:=HXZ.out;simpa using h5)),HB.out,rfl,rfl,rfl,rfl⟩)),Below.set3 g sr _ _ _,none,0,none,0,rfl,nil_rd _,nil_rd _⟩
              · have he:=hno (by omega)
                subst he;have HBz:Hid (pw 32≤val xn ^ N):=by unfold Hid;omega
                clear hno hyes hf1;obtain ⟨X0,X1,X2⟩:=X.cells;obtain ⟨Y0,Y1,Y2⟩:=Y.cells
                go_wp2_with fail
                clear X0 X1 X2 Y0 Y1 Y2;have hcall:=refPower_walk N 32 (val xd ^ N) X.rd (Nat.le_refl _) (by omega) (by omega) (by decide) rfl;refine hcall.mono ?_;clear hcall;rintro e w3 ⟨k3,hno,hyes⟩;replace X:=X.below k3;replace Y:=Y.below k3;replace R:=R.below k3;replace g:=g.trans (k3.mono g.size);by_cases hf2:val xd ^ N<pw 32
                · obtain ⟨us,u1,u2,cu,vu,rfl,ou⟩:=hyes hf2
                  have HU:Hid (can us∧val us=val xd ^ N∧val xd ^ N<pw 32):=⟨cu,vu,hf2⟩;clear hno hyes cu vu hf2;have HB:Hid (pw 32≤pnum cy xn xd ^ (val yn).toNat∨pw 32≤pden cy xn xd ^ (val yn).toNat):=pow_big1 (by rw [← HN.out.1];exact Or.inl HBz.out);have q0:=R.box.c0;have q1:=R.box.c1;have q2:=R.box.c2;have p0:=R.box.f0;have p1:=R.box.f1;have p2:=R.box.f2;go_wp2
                  have hR3:=R.box.set (.bool false) (.slice none 0 0) (.slice none 0 0);have r0:=hR3.c0;have r1:=hR3.c1;have r2:=hR3.c2;refine bodyPost_ret (v:=.tuple #[.agg #[.bool false,.slice none 0 0,.slice none 0 0],.int .i64 8]) (by simp [results,Tryz.results39,go_sem,r0,r1,r2]) rfl ?_;exact ⟨false,[],[],8,Or.inr (Or.inr (Or.inl ⟨⟨hx.out,hy.out⟩,HO.out,hy0,(by first | exact HXZ.out | (have h5:=HXZ.out;simpa using h5)),HB.out,rfl,rfl,rfl,rfl⟩)),Below.set3 g sr _ _ _,none,0,none,0,rfl,nil_rd _,nil_rd _⟩
                · have he:=hno (by omega)
                  subst he;have HB:Hid (pw 32≤pnum cy xn xd ^ (val yn).toNat∨pw 32≤pden cy xn xd ^ (val yn).toNat):=pow_big1 (by rw [← HN.out.1];exact Or.inr (by omega));clear hno hyes hf2;have q0:=R.box.c0;have q1:=R.box.c1;have q2:=R.box.c2;have p0:=R.box.f0;have p1:=R.box.f1;have p2:=R.box.f2;go_wp2
                  have hR3:=R.box.set (.bool false) (.slice none 0 0) (.slice none 0 0);have r0:=hR3.c0;have r1:=hR3.c1;have r2:=hR3.c2;refine bodyPost_ret (v:=.tuple #[.agg #[.bool false,.slice none 0 0,.slice none 0 0],.int .i64 8]) (by simp [results,Tryz.results39,go_sem,r0,r1,r2]) rfl ?_;exact ⟨false,[],[],8,Or.inr (Or.inr (Or.inl ⟨⟨hx.out,hy.out⟩,HO.out,hy0,(by first | exact HXZ.out | (have h5:=HXZ.out;simpa using h5)),HB.out,rfl,rfl,rfl,rfl⟩)),Below.set3 g sr _ _ _,none,0,none,0,rfl,nil_rd _,nil_rd _⟩
          · rw [smallV_ge (by omega)]
            have HB:Hid (pw 32≤pnum cy xn xd ^ (val yn).toNat∨pw 32≤pden cy xn xd ^ (val yn).toNat):=pow_wide hx.out hx0 HNE.out (by rw [← HN.out.1];omega);have q0:=R.box.c0;have q1:=R.box.c1;have q2:=R.box.c2;have p0:=R.box.f0;have p1:=R.box.f1;have p2:=R.box.f2;go_wp2
            have hR3:=R.box.set (.bool false) (.slice none 0 0) (.slice none 0 0);have r0:=hR3.c0;have r1:=hR3.c1;have r2:=hR3.c2;refine bodyPost_ret (v:=.tuple #[.agg #[.bool false,.slice none 0 0,.slice none 0 0],.int .i64 8]) (by simp [results,Tryz.results39,go_sem,r0,r1,r2]) rfl ?_;exact ⟨false,[],[],8,Or.inr (Or.inr (Or.inl ⟨⟨hx.out,hy.out⟩,HO.out,hy0,(by first | exact HXZ.out | (have h5:=HXZ.out;simpa using h5)),HB.out,rfl,rfl,rfl,rfl⟩)),Below.set3 g sr _ _ _,none,0,none,0,rfl,nil_rd _,nil_rd _⟩
      · have hxb:((xn.length:Int)==0)=true:=by rw [beq_iff_eq];omega
        have Hx:Hid (xn.length=0):=by unfold Hid;omega
        clear hx0
        cases cy with
        | true=>
         obtain ⟨X0,X1,X2⟩:=X.cells;obtain ⟨Y0,Y1,Y2⟩:=Y.cells;have q0:=R.box.c0;have q1:=R.box.c1;have q2:=R.box.c2;have p0:=R.box.f0;have p1:=R.box.f1;have p2:=R.box.f2;go_wp2
         have hR3:=R.box.set (.bool false) (.slice none 0 0) (.slice none 0 0);have r0:=hR3.c0;have r1:=hR3.c1;have r2:=hR3.c2;refine bodyPost_ret (v:=.tuple #[.agg #[.bool false,.slice none 0 0,.slice none 0 0],.int .i64 3]) (by simp [results,Tryz.results39,go_sem,r0,r1,r2]) rfl ?_;exact ⟨false,[],[],3,Or.inr (Or.inl ⟨⟨hx.out,hy.out⟩,Or.inr ⟨HO.out,hy0,Hx.out,rfl⟩,rfl,rfl,rfl,rfl⟩),Below.set3 g sr _ _ _,none,0,none,0,rfl,nil_rd _,nil_rd _⟩
        | false=>
         have HXv:Hid (val xn=0∧val xd=1):=by
          have h5:=(can_zero hx.out.2.2.1).1 Hx.out;have h6:=hx.out.2.2.2.2.2.2;rw [h5,gI_zero_left _ (Int.le_of_lt (right_pos hx.out).1)] at h6;exact ⟨h5,h6⟩
         have HYv:Hid (0<(val yn).toNat):=by
          have h5:=can_low hy.out.2.2.1 hy0;have h6:=pw_pos (yn.length - 1);unfold Hid;omega
         have HPN:Hid (pnum false xn xd=0∧pden false xn xd=1):=HXv;have R9:=R;obtain ⟨X0,X1,X2⟩:=X.cells;obtain ⟨Y0,Y1,Y2⟩:=Y.cells
         go_wp2_with fail
         clear X0 X1 X2 Y0 Y1 Y2;refine (refZero_any _).mono ?_;rintro e wz ⟨ds,HD,kz,x5,y5,x6,y6,rfl,on,od⟩;replace X:=X.below kz;replace Y:=Y.below kz;replace R:=R.below kz;replace g:=g.trans (kz.mono g.size);have q0:=R.box.c0;have q1:=R.box.c1;have q2:=R.box.c2;have p0:=R.box.f0;have p1:=R.box.f1;have p2:=R.box.f2;go_wp2
         have hR3:=R.box.set (.bool false) (.slice x5 0 y5) (.slice x6 ds.length y6);have r0:=hR3.c0;have r1:=hR3.c1;have r2:=hR3.c2;refine bodyPost_ret (v:=.tuple #[.agg #[.bool false,.slice x5 0 y5,.slice x6 ds.length y6],.int .i64 0]) (by simp [results,Tryz.results39,go_sem,r0,r1,r2]) rfl ?_;exact ⟨false,[],ds,0,Or.inr (Or.inr (Or.inr ⟨⟨hx.out,hy.out⟩,HO.out,(fun h=>by cases h.2.2),(by rw [HPN.out.1,Int.zero_pow (by have:=HYv.out;omega)];exact pw_pos 32),(by rw [HPN.out.2,Int.one_pow];exact one_lt_pw),rfl,(by rw [HD.out];exact right_zero),(by rw [HPN.out.1,sg_zero,Int.zero_pow (by have:=HYv.out;omega)];rfl),(by rw [HPN.out.2,Int.one_pow,HD.out];rfl)⟩)),Below.set3 g sr _ _ _,x5,y5,x6,y6,rfl,(Own.set3 on R9.lt _ _ _).rd,(Own.set3 od R9.lt _ _ _).rd⟩
    · have hyb:((yn.length:Int)==0)=true:=by rw [beq_iff_eq];omega
      have HY0:Hid ((val yn).toNat=0∧¬ 0<yn.length):=by
       refine ⟨?_,hy0⟩;rw [(can_zero hy.out.2.2.1).1 (by omega)];rfl
      have R1:=R;obtain ⟨Y0,Y1,Y2⟩:=Y.cells
      go_wp2_with fail
      clear Y0 Y1 Y2;refine (refOfInt_any 1 (by omega) (by omega) _).mono ?_;rintro e w2 ⟨k2,b1,ns,ds,x1,y1,x2,y2,HW,rfl,on,od⟩;replace X:=X.below k2;replace Y:=Y.below k2;replace R:=R.below k2;replace g:=g.trans (k2.mono g.size);have q0:=R.box.c0;have q1:=R.box.c1;have q2:=R.box.c2;have p0:=R.box.f0;have p1:=R.box.f1;have p2:=R.box.f2;go_wp2
      have hR3:=R.box.set (.bool b1) (.slice x1 ns.length y1) (.slice x2 ds.length y2);have r0:=hR3.c0;have r1:=hR3.c1;have r2:=hR3.c2;refine bodyPost_ret (v:=.tuple #[.agg #[.bool b1,.slice x1 ns.length y1,.slice x2 ds.length y2],.int .i64 0]) (by simp [results,Tryz.results39,go_sem,r0,r1,r2]) rfl ?_;exact ⟨b1,ns,ds,0,Or.inr (Or.inr (Or.inr ⟨⟨hx.out,hy.out⟩,HO.out,(fun h=>HY0.out.2 h.1),(by rw [HY0.out.1,Int.pow_zero];exact one_lt_pw),(by rw [HY0.out.1,Int.pow_zero];exact one_lt_pw),rfl,HW.out.right,(by rw [HY0.out.1,HW.out.sg.1,Int.pow_zero]),(by rw [HY0.out.1,HW.out.sg.2,Int.pow_zero])⟩)),Below.set3 g sr _ _ _,x1,y1,x2,y2,rfl,(Own.set3 on R1.lt _ _ _).rd,(Own.set3 od R1.lt _ _ _).rd⟩
end
end Go.Proofs.YtilbfkabfgnhpaaGreat
