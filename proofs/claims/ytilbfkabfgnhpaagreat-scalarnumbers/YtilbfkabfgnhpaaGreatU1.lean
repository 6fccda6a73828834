/- What a sum, and a product, of three answers: two such answers are one. -/
import Derived.Test.YtilbfkabfgnhpaaGreatKT
import Derived.Test.YtilbfkabfgnhpaaGreatK8
import Derived.Test.YtilbfkabfgnhpaaGreatK7
set_option maxRecDepth 100000
set_option maxHeartbeats 32000000
set_option linter.unusedVariables false
set_option linter.unusedSimpArgs false
namespace Go.Proofs.YtilbfkabfgnhpaaGreat
open Go.RowKit
theorem Rd.put' {w:World} {k ty n1 n2 m1 m2:Nat} {b:Bool} {x1 x2:Option Addr} {v:Value} {xs:List Int} (h:Rd w.heap.size w v xs) (hk:Box3 w k ty (.bool b) (.slice x1 n1 m1) (.slice x2 n2 m2)) (x y z:Value):Rd (((w.setCell ⟨k,0,none⟩ x).setCell ⟨k,1,none⟩ y).setCell ⟨k,2,none⟩ z).heap.size (((w.setCell ⟨k,0,none⟩ x).setCell ⟨k,1,none⟩ y).setCell ⟨k,2,none⟩ z) v xs:=by
 have szz:(((w.setCell ⟨k,0,none⟩ x).setCell ⟨k,1,none⟩ y).setCell ⟨k,2,none⟩ z).heap.size=w.heap.size:=by simp [World.setCell]
 rw [szz];exact h.put hk x y z
section
variable {w:World} {b:Bool} {a1 a2:Option Addr} {c1 c2:Nat} {ns ds:List Int}
theorem refNeg_num (h1:Rd w.heap.size w (.slice a1 ns.length c1) ns) (h2:Rd w.heap.size w (.slice a2 ds.length c2) ds) (l1:ns.length≤10000) (l2:ds.length≤10000) (C:Hid (can ns∧can ds)) :
    Calls Tryz.prog 62 #[.agg #[.bool b,.slice a1 ns.length c1,.slice a2 ds.length c2]] w fun e w'=>NumAns w (!b && decide (0<ns.length)) ns ds e w':=by
 obtain ⟨X,R,g⟩:=in1_new (b:=b) w h1 h2;have s0:w.heap.size≤w.heap.size+1:=by omega
 clear h1 h2;obtain ⟨x0,x1,x2⟩:=X.cells;go_enter Tryz.func62,Tryz.ntmps62
 go_wp2_with fail
 clear x0 x1 x2;generalize hA:(w.alloc (.cells #[.bool b,.slice a1 ns.length c1,.slice a2 ds.length c2] 24)).alloc (.cells #[.bool false,.slice none 0 0,.slice none 0 0] 24)=v at *;clear hA;refine (refCopied_any X.rn X.rd l1 l2 C).mono ?_;rintro e wb ⟨kb,z1,y1,z2,y2,rfl,on,od⟩;have g0:=g;have s1:w.heap.size≤v.heap.size:=g.size
 cases b with
 | true=>
  have kc:=below_alloc wb (.cells #[.bool false,.slice z1 ns.length y1,.slice z2 ds.length y2] 24);have R2:=(R.below kb).below kc;have q0:=R2.box.c0;have q1:=R2.box.c1;have q2:=R2.box.c2;have p0:=R2.box.f0;have p1:=R2.box.f1;have p2:=R2.box.f2;go_wp2
  have hR3:=R2.box.set (.bool false) (.slice z1 ns.length y1) (.slice z2 ds.length y2);have r0:=hR3.c0;have r1:=hR3.c1;have r2:=hR3.c2;refine bodyPost_ret (v:=.agg #[.bool false,.slice z1 ns.length y1,.slice z2 ds.length y2]) (by simp [results,Tryz.results62,go_sem,r0,r1,r2]) rfl ?_;have hbb:(!true && decide (0<ns.length))=false:=by simp
  rw [hbb];exact ⟨Below.set3 (g0.trans ((kb.trans (kc.mono kb.size)).mono s1)) s0 _ _ _,z1,y1,z2,y2,rfl,(Own.set3 (on.alloc _) R.lt _ _ _).mono s1,(Own.set3 (od.alloc _) R.lt _ _ _).mono s1⟩
 | false=>
  by_cases hl:0<ns.length
  · have hlb:decide (0<(ns.length:Int))=true:=decide_eq_true (by omega)
    have hln:decide (0<ns.length)=true:=decide_eq_true hl;have kc:=below_alloc wb (.cells #[.bool true,.slice z1 ns.length y1,.slice z2 ds.length y2] 24);have R2:=(R.below kb).below kc;have q0:=R2.box.c0;have q1:=R2.box.c1;have q2:=R2.box.c2;have p0:=R2.box.f0;have p1:=R2.box.f1;have p2:=R2.box.f2;go_wp2
    have hR3:=R2.box.set (.bool true) (.slice z1 ns.length y1) (.slice z2 ds.length y2);have r0:=hR3.c0;have r1:=hR3.c1;have r2:=hR3.c2;refine bodyPost_ret (v:=.agg #[.bool true,.slice z1 ns.length y1,.slice z2 ds.length y2]) (by simp [results,Tryz.results62,go_sem,r0,r1,r2]) rfl ?_;have hbb:(!false && decide (0<ns.length))=true:=by rw [hln];rfl
    rw [hbb];exact ⟨Below.set3 (g0.trans ((kb.trans (kc.mono kb.size)).mono s1)) s0 _ _ _,z1,y1,z2,y2,rfl,(Own.set3 (on.alloc _) R.lt _ _ _).mono s1,(Own.set3 (od.alloc _) R.lt _ _ _).mono s1⟩
  · have hlb:decide (0<(ns.length:Int))=false:=decide_eq_false (by omega)
    have hln:decide (0<ns.length)=false:=decide_eq_false hl;have kc:=below_alloc wb (.cells #[.bool false,.slice z1 ns.length y1,.slice z2 ds.length y2] 24);have R2:=(R.below kb).below kc;have q0:=R2.box.c0;have q1:=R2.box.c1;have q2:=R2.box.c2;have p0:=R2.box.f0;have p1:=R2.box.f1;have p2:=R2.box.f2;go_wp2
    have hR3:=R2.box.set (.bool false) (.slice z1 ns.length y1) (.slice z2 ds.length y2);have r0:=hR3.c0;have r1:=hR3.c1;have r2:=hR3.c2;refine bodyPost_ret (v:=.agg #[.bool false,.slice z1 ns.length y1,.slice z2 ds.length y2]) (by simp [results,Tryz.results62,go_sem,r0,r1,r2]) rfl ?_;have hbb:(!false && decide (0<ns.length))=false:=by rw [hln];rfl
    rw [hbb];exact ⟨Below.set3 (g0.trans ((kb.trans (kc.mono kb.size)).mono s1)) s0 _ _ _,z1,y1,z2,y2,rfl,(Own.set3 (on.alloc _) R.lt _ _ _).mono s1,(Own.set3 (od.alloc _) R.lt _ _ _).mono s1⟩
theorem refNeg_rat (h1:Rd w.heap.size w (.slice a1 ns.length c1) ns) (h2:Rd w.heap.size w (.slice a2 ds.length c2) ds) :
    Calls Tryz.prog 15 #[.agg #[.bool b,.slice a1 ns.length c1,.slice a2 ds.length c2]] w fun e w'=>Gives w (RightP b ns ds) (-(sg b (val ns))) (val ds) e w':=by
 obtain ⟨X,R,g⟩:=in1_new (b:=b) w h1 h2;have s0:w.heap.size≤w.heap.size+1:=by omega
 clear h1 h2;obtain ⟨x0,x1,x2⟩:=X.cells;go_enter Tryz.func15,Tryz.ntmps15
 go_wp2_with fail
 clear x0 x1 x2;generalize hA:(w.alloc (.cells #[.bool b,.slice a1 ns.length c1,.slice a2 ds.length c2] 24)).alloc (.cells #[.bool false,.slice none 0 0,.slice none 0 0] 24)=v at *;clear hA;refine (refRight_rat X.rn X.rd).mono ?_;rintro e wa ⟨⟨r,rfl,hr⟩,ka⟩;replace X:=X.below ka;replace R:=R.below ka;replace g:=g.trans (ka.mono g.size);clear ka
 cases r with
 | false=>
  have HP:Hid (¬ RightP b ns ds):=fun h=>by have:=hr.2 h;cases this
  clear hr;have q0:=R.box.c0;have q1:=R.box.c1;have q2:=R.box.c2;have p0:=R.box.f0;have p1:=R.box.f1;have p2:=R.box.f2;go_wp2
  have hR3:=R.box.set (.bool false) (.slice none 0 0) (.slice none 0 0);have r0:=hR3.c0;have r1:=hR3.c1;have r2:=hR3.c2;refine bodyPost_ret (v:=.tuple #[.agg #[.bool false,.slice none 0 0,.slice none 0 0],.int .i64 22]) (by simp [results,Tryz.results15,go_sem,r0,r1,r2]) rfl ?_;exact gives_err HP.out (Below.set3 g s0 _ _ _)
 | true=>
  have HP:Hid (RightP b ns ds):=hr.1 rfl;clear hr;have l1:ns.length≤10000:=Nat.le_trans HP.out.1 (by decide);have l2:ds.length≤10000:=Nat.le_trans HP.out.2.1 (by decide);have C:Hid (can ns∧can ds):=⟨HP.out.2.2.1,HP.out.2.2.2.1⟩;obtain ⟨x0,x1,x2⟩:=X.cells
  go_wp2_with fail
  clear x0 x1 x2;refine (refNeg_num X.rn X.rd l1 l2 C).mono ?_;rintro e wb ⟨kb,z1,y1,z2,y2,rfl,on,od⟩;have HB:=right_with (!b) HP.out;have R':=R;replace R:=R.below kb;replace g:=g.trans (kb.mono g.size);have q0:=R.box.c0;have q1:=R.box.c1;have q2:=R.box.c2;have p0:=R.box.f0;have p1:=R.box.f1;have p2:=R.box.f2;go_wp2
  have hR3:=R.box.set (.bool (!b && decide (0<ns.length))) (.slice z1 ns.length y1) (.slice z2 ds.length y2);have r0:=hR3.c0;have r1:=hR3.c1;have r2:=hR3.c2;refine bodyPost_ret (v:=.tuple #[.agg #[.bool (!b && decide (0<ns.length)),.slice z1 ns.length y1,.slice z2 ds.length y2],.int .i64 0]) (by simp [results,Tryz.results15,go_sem,r0,r1,r2]) rfl ?_;exact gives_num HP.out (Below.set3 g s0 _ _ _) ((Own.set3 on R'.lt _ _ _).mono (Nat.le_trans s0 (Nat.le_of_lt R'.lt))) ((Own.set3 od R'.lt _ _ _).mono (Nat.le_trans s0 (Nat.le_of_lt R'.lt))) HB.1 (by rw [HB.2,sg_not])
theorem refAbs_rat (h1:Rd w.heap.size w (.slice a1 ns.length c1) ns) (h2:Rd w.heap.size w (.slice a2 ds.length c2) ds) :
    Calls Tryz.prog 21 #[.agg #[.bool b,.slice a1 ns.length c1,.slice a2 ds.length c2]] w fun e w'=>Gives w (RightP b ns ds) (val ns) (val ds) e w':=by
 obtain ⟨X,R,g⟩:=in1_new (b:=b) w h1 h2;have s0:w.heap.size≤w.heap.size+1:=by omega
 clear h1 h2;obtain ⟨x0,x1,x2⟩:=X.cells;go_enter Tryz.func21,Tryz.ntmps21
 go_wp2_with fail
 clear x0 x1 x2;generalize hA:(w.alloc (.cells #[.bool b,.slice a1 ns.length c1,.slice a2 ds.length c2] 24)).alloc (.cells #[.bool false,.slice none 0 0,.slice none 0 0] 24)=v at *;clear hA;refine (refRight_rat X.rn X.rd).mono ?_;rintro e wa ⟨⟨r,rfl,hr⟩,ka⟩;replace X:=X.below ka;replace R:=R.below ka;replace g:=g.trans (ka.mono g.size);clear ka
 cases r with
 | false=>
  have HP:Hid (¬ RightP b ns ds):=fun h=>by have:=hr.2 h;cases this
  clear hr;have q0:=R.box.c0;have q1:=R.box.c1;have q2:=R.box.c2;have p0:=R.box.f0;have p1:=R.box.f1;have p2:=R.box.f2;go_wp2
  have hR3:=R.box.set (.bool false) (.slice none 0 0) (.slice none 0 0);have r0:=hR3.c0;have r1:=hR3.c1;have r2:=hR3.c2;refine bodyPost_ret (v:=.tuple #[.agg #[.bool false,.slice none 0 0,.slice none 0 0],.int .i64 22]) (by simp [results,Tryz.results21,go_sem,r0,r1,r2]) rfl ?_;exact gives_err HP.out (Below.set3 g s0 _ _ _)
 | true=>
  have HP:Hid (RightP b ns ds):=hr.1 rfl;clear hr;have l1:ns.length≤10000:=Nat.le_trans HP.out.1 (by decide);have l2:ds.length≤10000:=Nat.le_trans HP.out.2.1 (by decide);have C:Hid (can ns∧can ds):=⟨HP.out.2.2.1,HP.out.2.2.2.1⟩;obtain ⟨x0,x1,x2⟩:=X.cells
  go_wp2_with fail
  clear x0 x1 x2;refine (refCopied_any X.rn X.rd l1 l2 C).mono ?_;rintro e wb ⟨kb,z1,y1,z2,y2,rfl,on,od⟩;have HB:RightP false ns ds:=by have h:=(right_with false HP.out).1;rw [Bool.false_and] at h;exact h
  have s1:w.heap.size≤wa.heap.size:=g.size;have g0:=g;have kc:=below_alloc wb (.cells #[.bool false,.slice z1 ns.length y1,.slice z2 ds.length y2] 24);have R2:=(R.below kb).below kc;have q0:=R2.box.c0;have q1:=R2.box.c1;have q2:=R2.box.c2;have p0:=R2.box.f0;have p1:=R2.box.f1;have p2:=R2.box.f2;go_wp2
  have hR3:=R2.box.set (.bool false) (.slice z1 ns.length y1) (.slice z2 ds.length y2);have r0:=hR3.c0;have r1:=hR3.c1;have r2:=hR3.c2;refine bodyPost_ret (v:=.tuple #[.agg #[.bool false,.slice z1 ns.length y1,.slice z2 ds.length y2],.int .i64 0]) (by simp [results,Tryz.results21,go_sem,r0,r1,r2]) rfl ?_;exact gives_num HP.out (Below.set3 (g0.trans ((kb.trans (kc.mono kb.size)).mono s1)) s0 _ _ _) ((Own.set3 (on.alloc _) R.lt _ _ _).mono s1) ((Own.set3 (od.alloc _) R.lt _ _ _).mono s1) HB (by rw [sg_false])
end
theorem RMakes.from' {w0 w w':World} {N D:Int} {e:Ending} (t:Below w0.heap.size w0 w) (h:RMakes w N D e w'):RMakes w0 N D e w':=by
 obtain ⟨hb,h⟩:=h;refine ⟨t.trans (hb.mono t.size),?_⟩;rcases h with h | ⟨b,ns,ds,a1,c1,a2,c2,he,on,od,hr,hv⟩
 · exact Or.inl h
 · exact Or.inr ⟨b,ns,ds,a1,c1,a2,c2,he,on.mono t.size,od.mono t.size,hr,hv⟩
section
variable {w:World} {bx:Bool} {a1 a2:Option Addr} {c1 c2:Nat} {xn xd:List Int}
theorem in1_new' (w:World) (h1:Rd w.heap.size w (.slice a1 xn.length c1) xn) (h2:Rd w.heap.size w (.slice a2 xd.length c2) xd) :
    NVar ((w.alloc (.cells #[.bool bx,.slice a1 xn.length c1,.slice a2 xd.length c2] 24)).alloc (.cells #[.bool false,.slice none 0 0,.slice none 0 0] 24)) w.heap.size bx a1 xn c1 a2 xd c2∧RVar ((w.alloc (.cells #[.bool bx,.slice a1 xn.length c1,.slice a2 xd.length c2] 24)).alloc (.cells #[.bool false,.slice none 0 0,.slice none 0 0] 24)) (w.heap.size+1)∧Below w.heap.size w ((w.alloc (.cells #[.bool bx,.slice a1 xn.length c1,.slice a2 xd.length c2] 24)).alloc (.cells #[.bool false,.slice none 0 0,.slice none 0 0] 24)):=in1_new (b:=bx) w h1 h2
theorem refFloor_whole (h1:Rd w.heap.size w (.slice a1 xn.length c1) xn) (h2:Rd w.heap.size w (.slice a2 xd.length c2) xd) :
    Calls Tryz.prog 20 #[.agg #[.bool bx,.slice a1 xn.length c1,.slice a2 xd.length c2]] w fun e w'=>Gives w (RightP bx xn xd) (sg bx (wholeM bx (val xn) (val xd))) 1 e w':=by
 obtain ⟨X,R,g⟩:=in1_new' (bx:=bx) w h1 h2;have s0:w.heap.size≤w.heap.size+1:=by omega
 clear h1 h2;obtain ⟨x0,x1,x2⟩:=X.cells;go_enter Tryz.func20,Tryz.ntmps20
 go_wp2_with fail
 clear x0 x1 x2;generalize hA:(w.alloc (.cells #[.bool bx,.slice a1 xn.length c1,.slice a2 xd.length c2] 24)).alloc (.cells #[.bool false,.slice none 0 0,.slice none 0 0] 24)=v at *;clear hA;refine (refRight_rat X.rn X.rd).mono ?_;rintro e wa ⟨⟨r,rfl,hr⟩,ka⟩;replace X:=X.below ka;replace R:=R.below ka;replace g:=g.trans (ka.mono g.size);clear ka
 cases r with
 | false=>
  have HP:Hid (¬ RightP bx xn xd):=fun h=>by have:=hr.2 h;cases this
  clear hr;have q0:=R.box.c0;have q1:=R.box.c1;have q2:=R.box.c2;have p0:=R.box.f0;have p1:=R.box.f1;have p2:=R.box.f2;go_wp2
  have hR3:=R.box.set (.bool false) (.slice none 0 0) (.slice none 0 0);have r0:=hR3.c0;have r1:=hR3.c1;have r2:=hR3.c2;refine bodyPost_ret (v:=.tuple #[.agg #[.bool false,.slice none 0 0,.slice none 0 0],.int .i64 22]) (by simp [results,Tryz.results20,go_sem,r0,r1,r2]) rfl ?_;exact gives_err HP.out (Below.set3 g s0 _ _ _)
 | true=>
  have HP:Hid (RightP bx xn xd):=hr.1 rfl;clear hr;have l1:=HP.out.1;have l2:=HP.out.2.1;have ga:=g;have Ra:=R;have s1:w.heap.size≤wa.heap.size:=g.size;have hcells2:∀ {w':World},Below wa.heap.size wa w'→w'.cell? ⟨w.heap.size,0,none⟩=some (.bool bx):=fun hb=>(X.below hb).k0;have X2:∀ {w':World},Below wa.heap.size wa w'→NVar w' w.heap.size bx a1 xn c1 a2 xd c2:=fun hb=>X.below hb;obtain ⟨x0,x1,x2⟩:=X.cells
  go_wp2_with fail
  clear x0 x1 x2;refine (refDivMod_form X.rn (Nat.le_refl _) X.rd (Nat.le_refl _) (by omega) (by omega)).mono ?_;rintro e wb ⟨qs,rs,a5,c5,a6,c6,bq,rfl,oq,or,HQ0,kb⟩;have HQ:Hid (bq=true∧can qs∧can rs∧val qs=val xn/val xd∧val rs=val xn % val xd):=by
   rcases HQ0.out with ⟨h5,_⟩ | ⟨_,hb5,cq,cr,hv5,hl5⟩
   · have:=(right_pos HP.out).1;omega
   · have h6:=div_unique hv5 (val_bound cr.1).1 hl5
     exact ⟨hb5,cq,cr,h6.1,h6.2⟩
  clear HQ0;have lq:qs.length≤32:=by
   rw [can_len_pw HQ.out.2.1,HQ.out.2.2.2.1];exact Int.lt_of_le_of_lt (Int.ediv_le_self _ (right_pos HP.out).2) ((can_len_pw HP.out.2.2.1 32).1 HP.out.1)
  replace X:=X.below kb;have t1:Below wa.heap.size wa wb:=kb;clear kb R g;have HRS:Hid (0<rs.length↔¬ val rs=0):=can_add_one (q:=qs) HQ.out.2.2.1;by_cases hcs:bx=true∧0<rs.length
  · obtain ⟨rfl,hrl⟩:=hcs
    have HM:Hid (wholeM true (val xn) (val xd)=val qs+1):=by
     unfold Hid wholeM;rw [if_pos ⟨rfl,by rw [← HQ.out.2.2.2.2];exact HRS.out.1 hrl⟩,HQ.out.2.2.2.1]
    go_wp2_with fail
    refine (refOne_any _).mono ?_;rintro e wc ⟨os,a7,c7,HO,rfl,o7,kc⟩;have lo:os.length≤1:=by rw [HO.out];simp
    replace X:=X.below kc;have t3:Below wa.heap.size wa wc:=t1.trans (kc.mono t1.size);have oqc:=oq.below kc (Nat.le_refl _)
    go_wp2_with fail
    refine (refAdd_any oqc.rd (Nat.le_refl _) o7.rd (Nat.le_refl _) (by omega) (by omega)).mono ?_;rintro e wd ⟨zs,cz,vz,lz,a8,c8,rfl,o8,kd⟩;have HZ:Hid (val zs=wholeM true (val xn) (val xd)):=by
     unfold Hid;rw [vz,HM.out,HO.out,one_val]
    clear vz;replace X:=X.below kd;have t4:Below wa.heap.size wa wd:=t3.trans (kd.mono t3.size);have x0:=X.k0;have hcells:∀ {w':World},Below wd.heap.size wd w'→w'.cell? ⟨w.heap.size,0,none⟩=some (.bool true):=fun hb=>(X.below hb).k0;have hne:w.heap.size+1≠w.heap.size:=by omega
    have lz2:zs.length≤10000:=by omega
    go_wp2
    go_region_held3 (fun w'=>w'.cell? ⟨w.heap.size,0,none⟩=some (.bool true))
     (first | (go_keep;done) | exact tw | exact tw2 | exact tws)
     (first
      | (go_at_call 61;refine (refOne_any _).mono ?_;rintro e we ⟨es,x2,y2,HE,rfl,o3,bf'⟩;have bf:Below wd.heap.size wd we:=below_undrew (w:=wd) (B:=wd.heap.size) bf';have tw:=hcells bf;have t2:Below wa.heap.size wa we:=t4.trans (bf.mono t4.size);have le1:es.length≤10000:=(by rw [HE.out];simp))
      | (have j:=tw;go_at_call 64;refine (refMake_rat (b:=true) ((o8.rd.below bf).mono bf.size) o3.rd (by exact lz2) (by exact le1) (by rw [HE.out,one_val];decide)).mono ?_;intro e wf hm6;rw [HE.out,one_val,HZ.out] at hm6;obtain ⟨bm6,b6,x5,n5,y5,x6,n6,y6,err,rfl,hform⟩:=(RMakes.from' t2 hm6).form;have tw2:=hcells2 bm6;have Xf:=X2 bm6;have Rf:=Ra.below bm6;have tws:=(((Xf.box.apart (p:=⟨w.heap.size+1,0,none⟩) hne (.bool b6)).apart (p:=⟨w.heap.size+1,1,none⟩) hne (.slice x5 n5 y5)).apart (p:=⟨w.heap.size+1,2,none⟩) hne (.slice x6 n6 y6)).c0;have q0:=Rf.box.c0;have q1:=Rf.box.c1;have q2:=Rf.box.c2;have p0:=Rf.box.f0;have p1:=Rf.box.f1;have p2:=Rf.box.f2))
    all_goals
     go_wp2
     have hR3:=Rf.box.set (.bool b6) (.slice x5 n5 y5) (.slice x6 n6 y6);have r0:=hR3.c0;have r1:=hR3.c1;have r2:=hR3.c2;refine bodyPost_ret (v:=.tuple #[.agg #[.bool b6,.slice x5 n5 y5,.slice x6 n6 y6],.int .i64 err]) (by simp [results,Tryz.results20,go_sem,r0,r1,r2]) rfl ?_;exact (rform_done ga s0 Ra.lt bm6 hform).gives HP.out
  · have HM:Hid (val qs=wholeM bx (val xn) (val xd)):=by
     unfold Hid wholeM;rw [if_neg,Int.add_zero]
     · exact HQ.out.2.2.2.1
     · rintro ⟨hf,h0⟩
       exact hcs ⟨hf,HRS.out.2 (by rw [HQ.out.2.2.2.2];exact h0)⟩
    have hcs2:bx=false∨(bx=true∧¬ 0<rs.length):=by
     cases bx with
     | false=>exact Or.inl rfl
     | true=>exact Or.inr ⟨rfl,fun h=>hcs ⟨rfl,h⟩⟩
    clear hcs;rcases hcs2 with rfl | ⟨rfl,hr0⟩
    · have x0:=X.k0
      have hcells:∀ {w':World},Below wb.heap.size wb w'→w'.cell? ⟨w.heap.size,0,none⟩=some (.bool false):=fun hb=>(X.below hb).k0;have hne:w.heap.size+1≠w.heap.size:=by omega
      have lz2:qs.length≤10000:=by omega
      go_wp2
      go_region_held3 (fun w'=>w'.cell? ⟨w.heap.size,0,none⟩=some (.bool false))
       (first | (go_keep;done) | exact tw | exact tw2 | exact tws)
       (first
        | (go_at_call 61;refine (refOne_any _).mono ?_;rintro e we ⟨es,x2,y2,HE,rfl,o3,bf'⟩;have bf:Below wb.heap.size wb we:=below_undrew (w:=wb) (B:=wb.heap.size) bf';have tw:=hcells bf;have t2:Below wa.heap.size wa we:=t1.trans (bf.mono t1.size);have le1:es.length≤10000:=(by rw [HE.out];simp))
        | (have j:=tw;go_at_call 64;refine (refMake_rat (b:=false) ((oq.rd.below bf).mono bf.size) o3.rd (by exact lz2) (by exact le1) (by rw [HE.out,one_val];decide)).mono ?_;intro e wf hm6;rw [HE.out,one_val,HM.out] at hm6;obtain ⟨bm6,b6,x5,n5,y5,x6,n6,y6,err,rfl,hform⟩:=(RMakes.from' t2 hm6).form;have tw2:=hcells2 bm6;have Xf:=X2 bm6;have Rf:=Ra.below bm6;have tws:=(((Xf.box.apart (p:=⟨w.heap.size+1,0,none⟩) hne (.bool b6)).apart (p:=⟨w.heap.size+1,1,none⟩) hne (.slice x5 n5 y5)).apart (p:=⟨w.heap.size+1,2,none⟩) hne (.slice x6 n6 y6)).c0;have q0:=Rf.box.c0;have q1:=Rf.box.c1;have q2:=Rf.box.c2;have p0:=Rf.box.f0;have p1:=Rf.box.f1;have p2:=Rf.box.f2))
      all_goals
       go_wp2
       have hR3:=Rf.box.set (.bool b6) (.slice x5 n5 y5) (.slice x6 n6 y6);have r0:=hR3.c0;have r1:=hR3.c1;have r2:=hR3.c2;refine bodyPost_ret (v:=.tuple #[.agg #[.bool b6,.slice x5 n5 y5,.slice x6 n6 y6],.int .i64 err]) (by simp [results,Tryz.results20,go_sem,r0,r1,r2]) rfl ?_;exact (rform_done ga s0 Ra.lt bm6 hform).gives HP.out
    · have x0:=X.k0
      have hcells:∀ {w':World},Below wb.heap.size wb w'→w'.cell? ⟨w.heap.size,0,none⟩=some (.bool true):=fun hb=>(X.below hb).k0;have hne:w.heap.size+1≠w.heap.size:=by omega
      have lz2:qs.length≤10000:=by omega
      go_wp2
      go_region_held3 (fun w'=>w'.cell? ⟨w.heap.size,0,none⟩=some (.bool true))
       (first | (go_keep;done) | exact tw | exact tw2 | exact tws)
       (first
        | (go_at_call 61;refine (refOne_any _).mono ?_;rintro e we ⟨es,x2,y2,HE,rfl,o3,bf'⟩;have bf:Below wb.heap.size wb we:=below_undrew (w:=wb) (B:=wb.heap.size) bf';have tw:=hcells bf;have t2:Below wa.heap.size wa we:=t1.trans (bf.mono t1.size);have le1:es.length≤10000:=(by rw [HE.out];simp))
        | (have j:=tw;go_at_call 64;refine (refMake_rat (b:=true) ((oq.rd.below bf).mono bf.size) o3.rd (by exact lz2) (by exact le1) (by rw [HE.out,one_val];decide)).mono ?_;intro e wf hm6;rw [HE.out,one_val,HM.out] at hm6;obtain ⟨bm6,b6,x5,n5,y5,x6,n6,y6,err,rfl,hform⟩:=(RMakes.from' t2 hm6).form;have tw2:=hcells2 bm6;have Xf:=X2 bm6;have Rf:=Ra.below bm6;have tws:=(((Xf.box.apart (p:=⟨w.heap.size+1,0,none⟩) hne (.bool b6)).apart (p:=⟨w.heap.size+1,1,none⟩) hne (.slice x5 n5 y5)).apart (p:=⟨w.heap.size+1,2,none⟩) hne (.slice x6 n6 y6)).c0;have q0:=Rf.box.c0;have q1:=Rf.box.c1;have q2:=Rf.box.c2;have p0:=Rf.box.f0;have p1:=Rf.box.f1;have p2:=Rf.box.f2))
      all_goals
       go_wp2
       have hR3:=Rf.box.set (.bool b6) (.slice x5 n5 y5) (.slice x6 n6 y6);have r0:=hR3.c0;have r1:=hR3.c1;have r2:=hR3.c2;refine bodyPost_ret (v:=.tuple #[.agg #[.bool b6,.slice x5 n5 y5,.slice x6 n6 y6],.int .i64 err]) (by simp [results,Tryz.results20,go_sem,r0,r1,r2]) rfl ?_;exact (rform_done ga s0 Ra.lt bm6 hform).gives HP.out
theorem refFloor_rat (h1:Rd w.heap.size w (.slice a1 xn.length c1) xn) (h2:Rd w.heap.size w (.slice a2 xd.length c2) xd) :
    Calls Tryz.prog 20 #[.agg #[.bool bx,.slice a1 xn.length c1,.slice a2 xd.length c2]] w fun e w'=>Gives w (RightP bx xn xd) (sg bx (val xn)/val xd) 1 e w':=by
 refine (refFloor_whole h1 h2).mono ?_;intro e w' hd;by_cases hP:RightP bx xn xd
 · rw [floor_whole bx _ _ (right_pos hP).2 (right_pos hP).1] at hd
   exact hd
 · obtain ⟨k1,c,z1,n,z2,z3,m,z4,er,he,hO⟩:=hd
   refine ⟨k1,c,z1,n,z2,z3,m,z4,er,he,?_⟩;rcases hO.out with h | ⟨h,_⟩ | ⟨h,_⟩
   · exact Or.inl h
   · exact absurd h hP
   · exact absurd h hP
end
section
variable {w:World} {b:Bool} {a1 a2:Option Addr} {c1 c2:Nat} {ns ds:List Int}
theorem refCeil_rat (h1:Rd w.heap.size w (.slice a1 ns.length c1) ns) (h2:Rd w.heap.size w (.slice a2 ds.length c2) ds) :
    Calls Tryz.prog 19 #[.agg #[.bool b,.slice a1 ns.length c1,.slice a2 ds.length c2]] w fun e w'=>Gives w (RightP b ns ds) (-((-(sg b (val ns)))/val ds)) 1 e w':=by
 obtain ⟨X,R,g⟩:=in1_new (b:=b) w h1 h2;have s0:w.heap.size≤w.heap.size+1:=by omega
 clear h1 h2;obtain ⟨x0,x1,x2⟩:=X.cells;go_enter Tryz.func19,Tryz.ntmps19
 go_wp2_with fail
 clear x0 x1 x2;generalize hA:(w.alloc (.cells #[.bool b,.slice a1 ns.length c1,.slice a2 ds.length c2] 24)).alloc (.cells #[.bool false,.slice none 0 0,.slice none 0 0] 24)=v at *;clear hA;refine (refRight_rat X.rn X.rd).mono ?_;rintro e wa ⟨⟨r,rfl,hr⟩,ka⟩;replace X:=X.below ka;replace R:=R.below ka;replace g:=g.trans (ka.mono g.size);clear ka
 cases r with
 | false=>
  have HP:Hid (¬ RightP b ns ds):=fun h=>by have:=hr.2 h;cases this
  clear hr;have q0:=R.box.c0;have q1:=R.box.c1;have q2:=R.box.c2;have p0:=R.box.f0;have p1:=R.box.f1;have p2:=R.box.f2;go_wp2
  have hR3:=R.box.set (.bool false) (.slice none 0 0) (.slice none 0 0);have r0:=hR3.c0;have r1:=hR3.c1;have r2:=hR3.c2;refine bodyPost_ret (v:=.tuple #[.agg #[.bool false,.slice none 0 0,.slice none 0 0],.int .i64 22]) (by simp [results,Tryz.results19,go_sem,r0,r1,r2]) rfl ?_;exact gives_err HP.out (Below.set3 g s0 _ _ _)
 | true=>
  have HP:Hid (RightP b ns ds):=hr.1 rfl;clear hr;have l1:ns.length≤10000:=Nat.le_trans HP.out.1 (by decide);have l2:ds.length≤10000:=Nat.le_trans HP.out.2.1 (by decide);have C:Hid (can ns∧can ds):=⟨HP.out.2.2.1,HP.out.2.2.2.1⟩;have HB:=right_with (!b) HP.out;rw [sg_not] at HB;obtain ⟨x0,x1,x2⟩:=X.cells
  go_wp2_with fail
  clear x0 x1 x2;refine (refNeg_num X.rn X.rd l1 l2 C).mono ?_;rintro e wb ⟨kb,z1,y1,z2,y2,rfl,on,od⟩;replace R:=R.below kb;replace g:=g.trans (kb.mono g.size);generalize (!b && decide (0<ns.length))=c at *
  go_wp2_with fail
  refine (refFloor_rat on.rd od.rd).mono ?_;intro e wc hm;rcases gives_or hm HB.1 with ⟨kc,⟨rfl,hbig⟩ | ⟨c2,ms,es,z5,z6,z7,z8,rfl,om,oe,hr,hv⟩⟩
  · replace R:=R.below kc
    replace g:=g.trans (kc.mono g.size);have HG:Hid (Big (-((-(sg b (val ns)))/val ds)) 1):=(by rw [HB.2] at hbig;exact big_neg hbig);have kd:=below_alloc wc (.cells #[.bool false,.slice none 0 0,.slice none 0 0] 24);replace R:=R.below kd;replace g:=g.trans (kd.mono g.size);have q0:=R.box.c0;have q1:=R.box.c1;have q2:=R.box.c2;have p0:=R.box.f0;have p1:=R.box.f1;have p2:=R.box.f2;go_wp2
    have hR3:=R.box.set (.bool false) (.slice none 0 0) (.slice none 0 0);have r0:=hR3.c0;have r1:=hR3.c1;have r2:=hR3.c2;refine bodyPost_ret (v:=.tuple #[.agg #[.bool false,.slice none 0 0,.slice none 0 0],.int .i64 8]) (by simp [results,Tryz.results19,go_sem,r0,r1,r2]) rfl ?_;exact RMakes.gives (show RMakes w _ _ _ _ from ⟨Below.set3 g s0 _ _ _,Or.inl ⟨rfl,HG.out⟩⟩) HP.out
  · replace R:=R.below kc
    replace g:=g.trans (kc.mono g.size);have HR:Hid (RightP c2 ms es∧sg c2 (val ms)*1=(-(sg b (val ns)))/val ds*val es):=⟨hr,by rw [HB.2] at hv;exact hv⟩;clear hr hv hm;have F:=nvar_new (b:=c2) om.rd oe.rd;have kd:=below_alloc wc (.cells #[.bool c2,.slice z5 ms.length z6,.slice z7 es.length z8] 24);replace R:=R.below kd;replace g:=g.trans (kd.mono g.size);clear kd;have m1:ms.length≤10000:=Nat.le_trans HR.out.1.1 (by decide);have m2:es.length≤10000:=Nat.le_trans HR.out.1.2.1 (by decide);have M:Hid (can ms∧can es):=⟨HR.out.1.2.2.1,HR.out.1.2.2.2.1⟩;obtain ⟨x0,x1,x2⟩:=F.cells
    go_wp2_with fail
    clear x0 x1 x2;generalize hA:wc.alloc (.cells #[.bool c2,.slice z5 ms.length z6,.slice z7 es.length z8] 24)=wd at *;clear hA;refine (refNeg_num F.rn F.rd m1 m2 M).mono ?_;rintro e we ⟨ke,t1,u1,t2,u2,rfl,ot,ou⟩;have HC:=right_with (!c2) HR.out.1;have R':=R;replace R:=R.below ke;replace g:=g.trans (ke.mono g.size);have q0:=R.box.c0;have q1:=R.box.c1;have q2:=R.box.c2;have p0:=R.box.f0;have p1:=R.box.f1;have p2:=R.box.f2;go_wp2
    have hR3:=R.box.set (.bool (!c2 && decide (0<ms.length))) (.slice t1 ms.length u1) (.slice t2 es.length u2);have r0:=hR3.c0;have r1:=hR3.c1;have r2:=hR3.c2;refine bodyPost_ret (v:=.tuple #[.agg #[.bool (!c2 && decide (0<ms.length)),.slice t1 ms.length u1,.slice t2 es.length u2],.int .i64 0]) (by simp [results,Tryz.results19,go_sem,r0,r1,r2]) rfl ?_;exact gives_num HP.out (Below.set3 g s0 _ _ _) ((Own.set3 ot R'.lt _ _ _).mono (Nat.le_trans s0 (Nat.le_of_lt R'.lt))) ((Own.set3 ou R'.lt _ _ _).mono (Nat.le_trans s0 (Nat.le_of_lt R'.lt))) HC.1 (by rw [HC.2,sg_not,Int.neg_mul,HR.out.2,Int.neg_mul])
end
section
variable {w:World} {bx cy:Bool} {a1 a2 a3 a4:Option Addr} {c1 c2 c3 c4:Nat} {xn xd yn yd:List Int}
theorem in2_r (w:World) (h1:Rd w.heap.size w (.slice a1 xn.length c1) xn) (h2:Rd w.heap.size w (.slice a2 xd.length c2) xd) (h3:Rd w.heap.size w (.slice a3 yn.length c3) yn) (h4:Rd w.heap.size w (.slice a4 yd.length c4) yd) :
    NVar (((w.alloc (.cells #[.bool bx,.slice a1 xn.length c1,.slice a2 xd.length c2] 24)).alloc (.cells #[.bool cy,.slice a3 yn.length c3,.slice a4 yd.length c4] 24)).alloc (.cells #[.bool false,.slice none 0 0,.slice none 0 0] 24)) w.heap.size bx a1 xn c1 a2 xd c2∧NVar (((w.alloc (.cells #[.bool bx,.slice a1 xn.length c1,.slice a2 xd.length c2] 24)).alloc (.cells #[.bool cy,.slice a3 yn.length c3,.slice a4 yd.length c4] 24)).alloc (.cells #[.bool false,.slice none 0 0,.slice none 0 0] 24)) (w.heap.size+1) cy a3 yn c3 a4 yd c4∧RVar (((w.alloc (.cells #[.bool bx,.slice a1 xn.length c1,.slice a2 xd.length c2] 24)).alloc (.cells #[.bool cy,.slice a3 yn.length c3,.slice a4 yd.length c4] 24)).alloc (.cells #[.bool false,.slice none 0 0,.slice none 0 0] 24)) (w.heap.size+1+1)∧Below w.heap.size w (((w.alloc (.cells #[.bool bx,.slice a1 xn.length c1,.slice a2 xd.length c2] 24)).alloc (.cells #[.bool cy,.slice a3 yn.length c3,.slice a4 yd.length c4] 24)).alloc (.cells #[.bool false,.slice none 0 0,.slice none 0 0] 24)):=by
 obtain ⟨X,Y,g⟩:=nvar_in2 (bx:=bx) (cy:=cy) h1 h2 h3 h4;have kz:=below_alloc ((w.alloc (.cells #[.bool bx,.slice a1 xn.length c1,.slice a2 xd.length c2] 24)).alloc (.cells #[.bool cy,.slice a3 yn.length c3,.slice a4 yd.length c4] 24)) (.cells #[.bool false,.slice none 0 0,.slice none 0 0] 24);have R:=rvar_new ((w.alloc (.cells #[.bool bx,.slice a1 xn.length c1,.slice a2 xd.length c2] 24)).alloc (.cells #[.bool cy,.slice a3 yn.length c3,.slice a4 yd.length c4] 24));rw [World.size_alloc,World.size_alloc] at R;exact ⟨X.below kz,Y.below kz,R,g.trans (kz.mono g.size)⟩
theorem sg_bne (b c:Bool) (x y:Int):sg (!(b==c)) (x*y)=sg b x*sg c y:=by
 unfold sg
 cases b <;> cases c <;> simp [Int.neg_mul,Int.mul_neg]
theorem refTimes_rat (h1:Rd w.heap.size w (.slice a1 xn.length c1) xn) (h2:Rd w.heap.size w (.slice a2 xd.length c2) xd) (h3:Rd w.heap.size w (.slice a3 yn.length c3) yn) (h4:Rd w.heap.size w (.slice a4 yd.length c4) yd) (hx:Hid (RightP bx xn xd)) (hy:Hid (RightP cy yn yd)) :
    Calls Tryz.prog 36 #[.agg #[.bool bx,.slice a1 xn.length c1,.slice a2 xd.length c2],.agg #[.bool cy,.slice a3 yn.length c3,.slice a4 yd.length c4]] w fun e w'=>RMakes w (sg bx (val xn)*sg cy (val yn)) (val xd*val yd) e w':=by
 obtain ⟨X,Y,R,g⟩:=in2_r (bx:=bx) (cy:=cy) w h1 h2 h3 h4;have sr:w.heap.size≤w.heap.size+1+1:=by omega
 have nx:w.heap.size≠w.heap.size+1+1:=by omega
 have ny:w.heap.size+1≠w.heap.size+1+1:=by omega
 clear h1 h2 h3 h4;go_enter Tryz.func36,Tryz.ntmps36;have l1:=hx.out.1;have l2:=hx.out.2.1;have l3:=hy.out.1;have l4:=hy.out.2.1;go_wp2
 generalize hA:((w.alloc (.cells #[.bool bx,.slice a1 xn.length c1,.slice a2 xd.length c2] 24)).alloc (.cells #[.bool cy,.slice a3 yn.length c3,.slice a4 yd.length c4] 24)).alloc (.cells #[.bool false,.slice none 0 0,.slice none 0 0] 24)=v at *;clear hA;have hcells:∀ {w':World},Below v.heap.size v w'→w'.cell? ⟨w.heap.size,0,none⟩=some (.bool bx)∧w'.cell? ⟨w.heap.size,1,none⟩=some (.slice a1 xn.length c1)∧w'.cell? ⟨w.heap.size,2,none⟩=some (.slice a2 xd.length c2)∧w'.cell? ⟨(w.heap.size+1),0,none⟩=some (.bool cy)∧w'.cell? ⟨(w.heap.size+1),1,none⟩=some (.slice a3 yn.length c3)∧w'.cell? ⟨(w.heap.size+1),2,none⟩=some (.slice a4 yd.length c4):=fun hb=>⟨(X.below hb).k0,(X.below hb).k1,(X.below hb).k2,(Y.below hb).k0,(Y.below hb).k1,(Y.below hb).k2⟩;obtain ⟨s0,s1,s2,s3,s4,s5⟩:=hcells (Below.refl _ _)
 go_region_held3 (fun w'=>w'.cell? ⟨w.heap.size,0,none⟩=some (.bool bx)∧w'.cell? ⟨w.heap.size,1,none⟩=some (.slice a1 xn.length c1)∧w'.cell? ⟨w.heap.size,2,none⟩=some (.slice a2 xd.length c2)∧w'.cell? ⟨(w.heap.size+1),0,none⟩=some (.bool cy)∧w'.cell? ⟨(w.heap.size+1),1,none⟩=some (.slice a3 yn.length c3)∧w'.cell? ⟨(w.heap.size+1),2,none⟩=some (.slice a4 yd.length c4))
  (first | (go_keep;done) | exact tw1 | exact tw2 | exact tw3 | exact tws)
  (first
   | (have j:=tw2;go_at_call 64;refine (refMake_rat Z ot.rd lz2 lt2 (by rw [HT.out.2];exact Int.mul_pos (right_pos hx.out).1 (right_pos hy.out).1)).mono ?_;intro e u3 hm6;rw [HZ.out.2,HT.out.2] at hm6;obtain ⟨bm6,b6,x5,n5,y5,x6,n6,y6,err,rfl,hform⟩:=(RMakes.from' t2 hm6).form;have tw3:=hcells bm6;have XF:=X.below bm6;have YF:=Y.below bm6;have RF:=R.below bm6;have tws:=And.intro (XF.box.other nx (.bool b6) (.slice x5 n5 y5) (.slice x6 n6 y6)).c0 (And.intro (XF.box.other nx (.bool b6) (.slice x5 n5 y5) (.slice x6 n6 y6)).c1 (And.intro (XF.box.other nx (.bool b6) (.slice x5 n5 y5) (.slice x6 n6 y6)).c2 (And.intro (YF.box.other ny (.bool b6) (.slice x5 n5 y5) (.slice x6 n6 y6)).c0 (And.intro (YF.box.other ny (.bool b6) (.slice x5 n5 y5) (.slice x6 n6 y6)).c1 (YF.box.other ny (.bool b6) (.slice x5 n5 y5) (.slice x6 n6 y6)).c2))));have q0:=RF.box.c0;have q1:=RF.box.c1;have q2:=RF.box.c2;have p0:=RF.box.f0;have p1:=RF.box.f1;have p2:=RF.box.f2)
   | (have j:=tw1;go_at_call_of 65 (Value.slice a2 xd.length c2);refine (refMul_any (X.below t1).rd (Nat.le_refl _) (Y.below t1).rd (Nat.le_refl _) (by omega) (by omega)).mono ?_;rintro e u2 ⟨ts,ct,vt,lt,z3,z4,rfl,ot,j2⟩;have t2:Below v.heap.size v u2:=t1.trans (j2.mono t1.size);have tw2:=hcells t2;have HT:Hid (can ts∧val ts=val xd*val yd):=⟨ct,vt⟩;clear vt ct;have lt2:ts.length≤10000:=(by omega);clear lt;have Z:=(oz.rd.below j2).mono j2.size)
   | (go_at_call_of 65 (Value.slice a1 xn.length c1);refine (refMul_any (w:=v.drew) X.rn (Nat.le_refl _) Y.rn (Nat.le_refl _) (by omega) (by omega)).mono ?_;rintro e u1 ⟨zs,cz,vz,lz,z1,z2,rfl,oz,j1⟩;have t1:Below v.heap.size v u1:=below_undrew (w:=v) (B:=v.heap.size) j1;have tw1:=hcells t1;have HZ:Hid (can zs∧val zs=val xn*val yn):=⟨cz,vz⟩;clear vz cz;have lz2:zs.length≤10000:=(by omega);clear lz))
 all_goals
  go_wp2
  have hR3:=RF.box.set (.bool b6) (.slice x5 n5 y5) (.slice x6 n6 y6);have r0:=hR3.c0;have r1:=hR3.c1;have r2:=hR3.c2;refine bodyPost_ret (v:=.tuple #[.agg #[.bool b6,.slice x5 n5 y5,.slice x6 n6 y6],.int .i64 err]) (by simp [results,Tryz.results36,go_sem,r0,r1,r2]) rfl ?_;have hd:=rform_done g sr R.lt bm6 hform;rw [sg_bne] at hd;exact hd
end
section
variable {w:World} {bx cy:Bool} {a1 a2 a3 a4:Option Addr} {c1 c2 c3 c4:Nat} {xn xd yn yd:List Int}
theorem refTwo_rat (h1:Rd w.heap.size w (.slice a1 xn.length c1) xn) (h2:Rd w.heap.size w (.slice a2 xd.length c2) xd) (h3:Rd w.heap.size w (.slice a3 yn.length c3) yn) (h4:Rd w.heap.size w (.slice a4 yd.length c4) yd) (hx:Hid (RightP bx xn xd)) (hy:Hid (RightP cy yn yd)) :
    Calls Tryz.prog 34 #[.agg #[.bool bx,.slice a1 xn.length c1,.slice a2 xd.length c2],.agg #[.bool cy,.slice a3 yn.length c3,.slice a4 yd.length c4]] w fun e w'=>RMakes w (sg bx (val xn)*val yd+sg cy (val yn)*val xd) (val xd*val yd) e w':=by
 obtain ⟨X,Y,R,g⟩:=in2_r (bx:=bx) (cy:=cy) w h1 h2 h3 h4;have sr:w.heap.size≤w.heap.size+1+1:=by omega
 have nx:w.heap.size≠w.heap.size+1+1:=by omega
 have ny:w.heap.size+1≠w.heap.size+1+1:=by omega
 clear h1 h2 h3 h4;go_enter Tryz.func34,Tryz.ntmps34;have l1:=hx.out.1;have l2:=hx.out.2.1;have l3:=hy.out.1;have l4:=hy.out.2.1;go_wp2
 generalize hA:((w.alloc (.cells #[.bool bx,.slice a1 xn.length c1,.slice a2 xd.length c2] 24)).alloc (.cells #[.bool cy,.slice a3 yn.length c3,.slice a4 yd.length c4] 24)).alloc (.cells #[.bool false,.slice none 0 0,.slice none 0 0] 24)=v at *;clear hA;have hcells:∀ {w':World},Below v.heap.size v w'→w'.cell? ⟨w.heap.size,0,none⟩=some (.bool bx)∧w'.cell? ⟨w.heap.size,1,none⟩=some (.slice a1 xn.length c1)∧w'.cell? ⟨w.heap.size,2,none⟩=some (.slice a2 xd.length c2)∧w'.cell? ⟨(w.heap.size+1),0,none⟩=some (.bool cy)∧w'.cell? ⟨(w.heap.size+1),1,none⟩=some (.slice a3 yn.length c3)∧w'.cell? ⟨(w.heap.size+1),2,none⟩=some (.slice a4 yd.length c4):=fun hb=>⟨(X.below hb).k0,(X.below hb).k1,(X.below hb).k2,(Y.below hb).k0,(Y.below hb).k1,(Y.below hb).k2⟩;obtain ⟨s0,s1,s2,s3,s4,s5⟩:=hcells (Below.refl _ _)
 go_region_held3 (fun w'=>w'.cell? ⟨w.heap.size,0,none⟩=some (.bool bx)∧w'.cell? ⟨w.heap.size,1,none⟩=some (.slice a1 xn.length c1)∧w'.cell? ⟨w.heap.size,2,none⟩=some (.slice a2 xd.length c2)∧w'.cell? ⟨(w.heap.size+1),0,none⟩=some (.bool cy)∧w'.cell? ⟨(w.heap.size+1),1,none⟩=some (.slice a3 yn.length c3)∧w'.cell? ⟨(w.heap.size+1),2,none⟩=some (.slice a4 yd.length c4))
  (first | (go_keep;done) | exact tw1 | exact tw2 | exact tw3)
  (first
   | (have j:=tw2;go_at_call 108;refine (refSigned_any Z ot.rd 65 lz2 lt2 (by decide) HZ.out.1 HT.out.1).mono ?_;rintro e u3 ⟨j3,ss,z5,z6,bs,rfl,cs,ls,hs,os⟩;have t3:Below v.heap.size v u3:=t2.trans (j3.mono t2.size);have tw3:=hcells t3;have HS:Hid (sg bs (val ss)=sg bx (val xn)*val yd+sg cy (val yn)*val xd):=(by unfold Hid;rw [hs.out,HZ.out.2,HT.out.2,sg_mul,sg_mul]);clear hs cs)
   | (have j:=tw1;go_at_call_of 65 (Value.slice a3 yn.length c3);refine (refMul_any (Y.below t1).rn (Nat.le_refl _) (X.below t1).rd (Nat.le_refl _) (by omega) (by omega)).mono ?_;rintro e u2 ⟨ts,ct,vt,lt,z3,z4,rfl,ot,j2⟩;have t2:Below v.heap.size v u2:=t1.trans (j2.mono t1.size);have tw2:=hcells t2;have HT:Hid (can ts∧val ts=val yn*val xd):=⟨ct,vt⟩;clear vt ct;have lt2:ts.length≤65:=(by omega);clear lt;have Z:=(oz.rd.below j2).mono j2.size)
   | (go_at_call_of 65 (Value.slice a1 xn.length c1);refine (refMul_any (w:=v.drew) X.rn (Nat.le_refl _) Y.rd (Nat.le_refl _) (by omega) (by omega)).mono ?_;rintro e u1 ⟨zs,cz,vz,lz,z1,z2,rfl,oz,j1⟩;have t1:Below v.heap.size v u1:=below_undrew (w:=v) (B:=v.heap.size) j1;have tw1:=hcells t1;have HZ:Hid (can zs∧val zs=val xn*val yd):=⟨cz,vz⟩;clear vz cz;have lz2:zs.length≤65:=(by omega);clear lz))
 have NS:=os.rd;clear hcells s0 s1 s2 s3 s4 s5 tw1 tw2 tw3 Z os oz ot HZ HT j1 j2 j3 t1 t2 lz2 lt2;replace X:=X.below t3;replace Y:=Y.below t3;replace R:=R.below t3;replace g:=g.trans (t3.mono g.size);obtain ⟨X0,X1,X2⟩:=X.cells;obtain ⟨Y0,Y1,Y2⟩:=Y.cells;clear t3
 go_wp2_with fail
 clear X0 X1 X2 Y0 Y1 Y2;refine (refMul_any X.rd (Nat.le_refl _) Y.rd (Nat.le_refl _) (by omega) (by omega)).mono ?_;rintro e u4 ⟨ds,cd,vd,ld,d1,d2,rfl,od,k4⟩;replace NS:=(NS.below k4).mono k4.size;replace X:=X.below k4;replace Y:=Y.below k4;replace R:=R.below k4;replace g:=g.trans (k4.mono g.size);clear k4;have HD:Hid (val ds=val xd*val yd∧0<val xd*val yd):=⟨vd,Int.mul_pos (right_pos hx.out).1 (right_pos hy.out).1⟩;clear vd cd
 go_wp2_with fail
 refine (refMake_rat NS od.rd (by omega) (by omega) (by rw [HD.out.1];exact HD.out.2)).mono ?_;intro e u5 hm6;rw [HS.out,HD.out.1] at hm6;obtain ⟨bm6,b6,x5,n5,y5,x6,n6,y6,err,rfl,hform⟩:=hm6.form;have RF:=R.below bm6;have q0:=RF.box.c0;have q1:=RF.box.c1;have q2:=RF.box.c2;have p0:=RF.box.f0;have p1:=RF.box.f1;have p2:=RF.box.f2;go_wp2
 have hR3:=RF.box.set (.bool b6) (.slice x5 n5 y5) (.slice x6 n6 y6);have r0:=hR3.c0;have r1:=hR3.c1;have r2:=hR3.c2;refine bodyPost_ret (v:=.tuple #[.agg #[.bool b6,.slice x5 n5 y5,.slice x6 n6 y6],.int .i64 err]) (by simp [results,Tryz.results34,go_sem,r0,r1,r2]) rfl ?_;exact rform_done g sr R.lt bm6 hform
end
section
variable {w:World} {bx cy:Bool} {a1 a2 a3 a4:Option Addr} {c1 c2 c3 c4:Nat} {xn xd yn yd:List Int}
theorem refSub_rat (h1:Rd w.heap.size w (.slice a1 xn.length c1) xn) (h2:Rd w.heap.size w (.slice a2 xd.length c2) xd) (h3:Rd w.heap.size w (.slice a3 yn.length c3) yn) (h4:Rd w.heap.size w (.slice a4 yd.length c4) yd) :
    Calls Tryz.prog 35 #[.agg #[.bool bx,.slice a1 xn.length c1,.slice a2 xd.length c2],.agg #[.bool cy,.slice a3 yn.length c3,.slice a4 yd.length c4]] w fun e w'=>Gives w (RightP bx xn xd∧RightP cy yn yd) (sg bx (val xn)*val yd+sg (!cy) (val yn)*val xd) (val xd*val yd) e w':=by
 obtain ⟨X,Y,R,g⟩:=in2_r (bx:=bx) (cy:=cy) w h1 h2 h3 h4;have sr:w.heap.size≤w.heap.size+1+1:=by omega
 have nx:w.heap.size≠w.heap.size+1+1:=by omega
 have ny:w.heap.size+1≠w.heap.size+1+1:=by omega
 clear h1 h2 h3 h4;go_enter Tryz.func35,Tryz.ntmps35;obtain ⟨X0,X1,X2⟩:=X.cells
 go_wp2_with fail
 clear X0 X1 X2;generalize hA:((w.alloc (.cells #[.bool bx,.slice a1 xn.length c1,.slice a2 xd.length c2] 24)).alloc (.cells #[.bool cy,.slice a3 yn.length c3,.slice a4 yd.length c4] 24)).alloc (.cells #[.bool false,.slice none 0 0,.slice none 0 0] 24)=v at *;clear hA;refine (refRight_rat X.rn X.rd).mono ?_;rintro e wa ⟨⟨r,rfl,hr⟩,ka⟩;replace X:=X.below ka;replace Y:=Y.below ka;replace R:=R.below ka;replace g:=g.trans (ka.mono g.size);clear ka
 cases r with
 | false=>
  have HP:Hid (¬ RightP bx xn xd):=fun h=>by have:=hr.2 h;cases this
  clear hr;have q0:=R.box.c0;have q1:=R.box.c1;have q2:=R.box.c2;have p0:=R.box.f0;have p1:=R.box.f1;have p2:=R.box.f2;go_wp2
  have hR3:=R.box.set (.bool false) (.slice none 0 0) (.slice none 0 0);have r0:=hR3.c0;have r1:=hR3.c1;have r2:=hR3.c2;refine bodyPost_ret (v:=.tuple #[.agg #[.bool false,.slice none 0 0,.slice none 0 0],.int .i64 22]) (by simp [results,Tryz.results35,go_sem,r0,r1,r2]) rfl ?_;exact gives_err (fun h=>HP.out h.1) (Below.set3 g sr _ _ _)
 | true=>
  have hx:Hid (RightP bx xn xd):=hr.1 rfl;clear hr;obtain ⟨Y0,Y1,Y2⟩:=Y.cells
  go_wp2_with fail
  clear Y0 Y1 Y2;refine (refRight_rat Y.rn Y.rd).mono ?_;rintro e wb ⟨⟨r,rfl,hr⟩,kb⟩;replace X:=X.below kb;replace Y:=Y.below kb;replace R:=R.below kb;replace g:=g.trans (kb.mono g.size);clear kb
  cases r with
  | false=>
   have HP:Hid (¬ RightP cy yn yd):=fun h=>by have:=hr.2 h;cases this
   clear hr;have q0:=R.box.c0;have q1:=R.box.c1;have q2:=R.box.c2;have p0:=R.box.f0;have p1:=R.box.f1;have p2:=R.box.f2;go_wp2
   have hR3:=R.box.set (.bool false) (.slice none 0 0) (.slice none 0 0);have r0:=hR3.c0;have r1:=hR3.c1;have r2:=hR3.c2;refine bodyPost_ret (v:=.tuple #[.agg #[.bool false,.slice none 0 0,.slice none 0 0],.int .i64 22]) (by simp [results,Tryz.results35,go_sem,r0,r1,r2]) rfl ?_;exact gives_err (fun h=>HP.out h.2) (Below.set3 g sr _ _ _)
  | true=>
   have hy:Hid (RightP cy yn yd):=hr.1 rfl;clear hr;have l1:=hx.out.1;have l2:=hx.out.2.1;have l3:=hy.out.1;have l4:=hy.out.2.1;have HB:=right_with (!cy) hy.out;go_wp2
   have hcells:∀ {w':World},Below wb.heap.size wb w'→w'.cell? ⟨w.heap.size,0,none⟩=some (.bool bx)∧w'.cell? ⟨w.heap.size,1,none⟩=some (.slice a1 xn.length c1)∧w'.cell? ⟨w.heap.size,2,none⟩=some (.slice a2 xd.length c2)∧w'.cell? ⟨(w.heap.size+1),0,none⟩=some (.bool cy)∧w'.cell? ⟨(w.heap.size+1),1,none⟩=some (.slice a3 yn.length c3)∧w'.cell? ⟨(w.heap.size+1),2,none⟩=some (.slice a4 yd.length c4):=fun hb=>⟨(X.below hb).k0,(X.below hb).k1,(X.below hb).k2,(Y.below hb).k0,(Y.below hb).k1,(Y.below hb).k2⟩;obtain ⟨s0,s1,s2,s3,s4,s5⟩:=hcells (Below.refl _ _);have m1:yn.length≤10000:=by omega
   have m2:yd.length≤10000:=by omega
   have M:Hid (can yn∧can yd):=⟨hy.out.2.2.1,hy.out.2.2.2.1⟩
   go_region_held3 (fun w'=>w'.cell? ⟨w.heap.size,0,none⟩=some (.bool bx)∧w'.cell? ⟨w.heap.size,1,none⟩=some (.slice a1 xn.length c1)∧w'.cell? ⟨w.heap.size,2,none⟩=some (.slice a2 xd.length c2)∧w'.cell? ⟨(w.heap.size+1),0,none⟩=some (.bool cy)∧w'.cell? ⟨(w.heap.size+1),1,none⟩=some (.slice a3 yn.length c3)∧w'.cell? ⟨(w.heap.size+1),2,none⟩=some (.slice a4 yd.length c4))
    (first | (go_keep;done) | exact tw1 | exact tw2 | exact tws)
    (first
     | (have j:=tw1;go_at_call 34;refine (refTwo_rat (X.below t1).rn (X.below t1).rd on.rd od.rd hx HB.1).mono ?_;intro e u2 hm6;rw [HB.2] at hm6;obtain ⟨bm6,b6,x5,n5,y5,x6,n6,y6,err,rfl,hform⟩:=(RMakes.from' t1 hm6).form;have tw2:=hcells bm6;have XF:=X.below bm6;have YF:=Y.below bm6;have RF:=R.below bm6;have tws:=And.intro (XF.box.other nx (.bool b6) (.slice x5 n5 y5) (.slice x6 n6 y6)).c0 (And.intro (XF.box.other nx (.bool b6) (.slice x5 n5 y5) (.slice x6 n6 y6)).c1 (And.intro (XF.box.other nx (.bool b6) (.slice x5 n5 y5) (.slice x6 n6 y6)).c2 (And.intro (YF.box.other ny (.bool b6) (.slice x5 n5 y5) (.slice x6 n6 y6)).c0 (And.intro (YF.box.other ny (.bool b6) (.slice x5 n5 y5) (.slice x6 n6 y6)).c1 (YF.box.other ny (.bool b6) (.slice x5 n5 y5) (.slice x6 n6 y6)).c2))));have q0:=RF.box.c0;have q1:=RF.box.c1;have q2:=RF.box.c2;have p0:=RF.box.f0;have p1:=RF.box.f1;have p2:=RF.box.f2)
     | (go_at_call 62;refine (refNeg_num (w:=wb.drew) Y.rn Y.rd m1 m2 M).mono ?_;rintro e u1 ⟨j1,z1,y1,z2,y2,rfl,on,od⟩;have t1:Below wb.heap.size wb u1:=below_undrew (w:=wb) (B:=wb.heap.size) j1;have tw1:=hcells t1))
   all_goals
    go_wp2
    have hR3:=RF.box.set (.bool b6) (.slice x5 n5 y5) (.slice x6 n6 y6);have r0:=hR3.c0;have r1:=hR3.c1;have r2:=hR3.c2;refine bodyPost_ret (v:=.tuple #[.agg #[.bool b6,.slice x5 n5 y5,.slice x6 n6 y6],.int .i64 err]) (by simp [results,Tryz.results35,go_sem,r0,r1,r2]) rfl ?_;exact (rform_done g sr R.lt bm6 hform).gives ⟨hx.out,hy.out⟩
end
/-- What a division by 0 answers. -/
def DivZ (P:Prop) (xn:List Int) (b:Bool) (ns ds:List Int) (err:Int):Prop:=
 (¬ P∧err=22∧b=false∧ns=[]∧ds=[])∨(P∧0<xn.length∧err=3∧b=false∧ns=[]∧ds=[])∨(P∧xn.length=0∧err=0∧b=false∧ns=[1]∧ds=[1])
theorem DivZ.unique {P:Prop} {xn:List Int} {b c:Bool} {ns ds ms es:List Int} {e f:Int} (h:DivZ P xn b ns ds e) (k:DivZ P xn c ms es f):c=b∧ms=ns∧es=ds∧f=e:=by
 rcases h with ⟨hp,rfl,rfl,rfl,rfl⟩ | ⟨hp,h0,rfl,rfl,rfl,rfl⟩ | ⟨hp,h0,rfl,rfl,rfl,rfl⟩ <;> rcases k with ⟨kp,rfl,rfl,rfl,rfl⟩ | ⟨kp,k0,rfl,rfl,rfl,rfl⟩ | ⟨kp,k0,rfl,rfl,rfl,rfl⟩
 · exact ⟨rfl,rfl,rfl,rfl⟩
 · exact absurd kp hp
 · exact absurd kp hp
 · exact absurd hp kp
 · exact ⟨rfl,rfl,rfl,rfl⟩
 · omega
 · exact absurd hp kp
 · omega
 · exact ⟨rfl,rfl,rfl,rfl⟩
theorem whole_one {b:Bool} {ns ds:List Int} (h:WholeIs 1 b ns ds):b=false∧ns=[1]∧ds=[1]:=by
 obtain ⟨hb,cn,vn,_,hd⟩:=h;exact ⟨hb,can_inj cn can_one (by rw [vn,one_val];rfl),hd⟩
section
variable {w:World} {bx cy:Bool} {a1 a2 a3 a4:Option Addr} {c1 c2 c3 c4:Nat} {xn xd yn yd:List Int}
theorem refDiv_nz (h1:Rd w.heap.size w (.slice a1 xn.length c1) xn) (h2:Rd w.heap.size w (.slice a2 xd.length c2) xd) (h3:Rd w.heap.size w (.slice a3 yn.length c3) yn) (h4:Rd w.heap.size w (.slice a4 yd.length c4) yd) (h0:0<yn.length) :
    Calls Tryz.prog 18 #[.agg #[.bool bx,.slice a1 xn.length c1,.slice a2 xd.length c2],.agg #[.bool cy,.slice a3 yn.length c3,.slice a4 yd.length c4]] w fun e w'=>Gives w (RightP bx xn xd∧RightP cy yn yd) (sg bx (val xn)*sg cy (val yd)) (val xd*val yn) e w':=by
 obtain ⟨X,Y,R,g⟩:=in2_r (bx:=bx) (cy:=cy) w h1 h2 h3 h4;have sr:w.heap.size≤w.heap.size+1+1:=by omega
 have nx:w.heap.size≠w.heap.size+1+1:=by omega
 have ny:w.heap.size+1≠w.heap.size+1+1:=by omega
 clear h1 h2 h3 h4;go_enter Tryz.func18,Tryz.ntmps18;obtain ⟨X0,X1,X2⟩:=X.cells
 go_wp2_with fail
 clear X0 X1 X2;generalize hA:((w.alloc (.cells #[.bool bx,.slice a1 xn.length c1,.slice a2 xd.length c2] 24)).alloc (.cells #[.bool cy,.slice a3 yn.length c3,.slice a4 yd.length c4] 24)).alloc (.cells #[.bool false,.slice none 0 0,.slice none 0 0] 24)=v at *;clear hA;refine (refRight_rat X.rn X.rd).mono ?_;rintro e wa ⟨⟨r,rfl,hr⟩,ka⟩;replace X:=X.below ka;replace Y:=Y.below ka;replace R:=R.below ka;replace g:=g.trans (ka.mono g.size);clear ka
 cases r with
 | false=>
  have HP:Hid (¬ RightP bx xn xd):=fun h=>by have:=hr.2 h;cases this
  clear hr;have q0:=R.box.c0;have q1:=R.box.c1;have q2:=R.box.c2;have p0:=R.box.f0;have p1:=R.box.f1;have p2:=R.box.f2;go_wp2
  have hR3:=R.box.set (.bool false) (.slice none 0 0) (.slice none 0 0);have r0:=hR3.c0;have r1:=hR3.c1;have r2:=hR3.c2;refine bodyPost_ret (v:=.tuple #[.agg #[.bool false,.slice none 0 0,.slice none 0 0],.int .i64 22]) (by simp [results,Tryz.results18,go_sem,r0,r1,r2]) rfl ?_;exact gives_err (fun h=>HP.out h.1) (Below.set3 g sr _ _ _)
 | true=>
  have hx:Hid (RightP bx xn xd):=hr.1 rfl;clear hr;obtain ⟨Y0,Y1,Y2⟩:=Y.cells
  go_wp2_with fail
  clear Y0 Y1 Y2;refine (refRight_rat Y.rn Y.rd).mono ?_;rintro e wb ⟨⟨r,rfl,hr⟩,kb⟩;replace X:=X.below kb;replace Y:=Y.below kb;replace R:=R.below kb;replace g:=g.trans (kb.mono g.size);clear kb
  cases r with
  | false=>
   have HP:Hid (¬ RightP cy yn yd):=fun h=>by have:=hr.2 h;cases this
   clear hr;have q0:=R.box.c0;have q1:=R.box.c1;have q2:=R.box.c2;have p0:=R.box.f0;have p1:=R.box.f1;have p2:=R.box.f2;go_wp2
   have hR3:=R.box.set (.bool false) (.slice none 0 0) (.slice none 0 0);have r0:=hR3.c0;have r1:=hR3.c1;have r2:=hR3.c2;refine bodyPost_ret (v:=.tuple #[.agg #[.bool false,.slice none 0 0,.slice none 0 0],.int .i64 22]) (by simp [results,Tryz.results18,go_sem,r0,r1,r2]) rfl ?_;exact gives_err (fun h=>HP.out h.2) (Below.set3 g sr _ _ _)
  | true=>
   have hy:Hid (RightP cy yn yd):=hr.1 rfl;clear hr;have l1:=hx.out.1;have l2:=hx.out.2.1;have l3:=hy.out.1;have l4:=hy.out.2.1;have hb0:((yn.length:Int)==0)=false:=by rw [beq_eq_false_iff_ne];omega
   have HY0:Hid (0<val yn):=by
    have h5:=can_zero hy.out.2.2.1;have h6:=(right_pos hy.out).2;have h7:¬ val yn=0:=fun e=>by have:=h5.2 e;omega
    unfold Hid;omega
   obtain ⟨X0,X1,X2⟩:=X.cells;obtain ⟨Y0,Y1,Y2⟩:=Y.cells;go_wp2
   clear X0 X1 X2 Y0 Y1 Y2;have hcells:∀ {w':World},Below wb.heap.size wb w'→w'.cell? ⟨w.heap.size,0,none⟩=some (.bool bx)∧w'.cell? ⟨w.heap.size,1,none⟩=some (.slice a1 xn.length c1)∧w'.cell? ⟨w.heap.size,2,none⟩=some (.slice a2 xd.length c2)∧w'.cell? ⟨(w.heap.size+1),0,none⟩=some (.bool cy)∧w'.cell? ⟨(w.heap.size+1),1,none⟩=some (.slice a3 yn.length c3)∧w'.cell? ⟨(w.heap.size+1),2,none⟩=some (.slice a4 yd.length c4):=fun hb=>⟨(X.below hb).k0,(X.below hb).k1,(X.below hb).k2,(Y.below hb).k0,(Y.below hb).k1,(Y.below hb).k2⟩;obtain ⟨s0,s1,s2,s3,s4,s5⟩:=hcells (Below.refl _ _)
   go_region_held3 (fun w'=>w'.cell? ⟨w.heap.size,0,none⟩=some (.bool bx)∧w'.cell? ⟨w.heap.size,1,none⟩=some (.slice a1 xn.length c1)∧w'.cell? ⟨w.heap.size,2,none⟩=some (.slice a2 xd.length c2)∧w'.cell? ⟨(w.heap.size+1),0,none⟩=some (.bool cy)∧w'.cell? ⟨(w.heap.size+1),1,none⟩=some (.slice a3 yn.length c3)∧w'.cell? ⟨(w.heap.size+1),2,none⟩=some (.slice a4 yd.length c4))
    (first | (go_keep;done) | exact tw1 | exact tw2 | exact tw3 | exact tws)
    (first
     | (have j:=tw2;go_at_call 64;refine (refMake_rat Z ot.rd lz2 lt2 (by rw [HT.out.2];exact Int.mul_pos (right_pos hx.out).1 HY0.out)).mono ?_;intro e u3 hm6;rw [HZ.out.2,HT.out.2] at hm6;obtain ⟨bm6,b6,x5,n5,y5,x6,n6,y6,err,rfl,hform⟩:=(RMakes.from' t2 hm6).form;have tw3:=hcells bm6;have XF:=X.below bm6;have YF:=Y.below bm6;have RF:=R.below bm6;have tws:=And.intro (XF.box.other nx (.bool b6) (.slice x5 n5 y5) (.slice x6 n6 y6)).c0 (And.intro (XF.box.other nx (.bool b6) (.slice x5 n5 y5) (.slice x6 n6 y6)).c1 (And.intro (XF.box.other nx (.bool b6) (.slice x5 n5 y5) (.slice x6 n6 y6)).c2 (And.intro (YF.box.other ny (.bool b6) (.slice x5 n5 y5) (.slice x6 n6 y6)).c0 (And.intro (YF.box.other ny (.bool b6) (.slice x5 n5 y5) (.slice x6 n6 y6)).c1 (YF.box.other ny (.bool b6) (.slice x5 n5 y5) (.slice x6 n6 y6)).c2))));have q0:=RF.box.c0;have q1:=RF.box.c1;have q2:=RF.box.c2;have p0:=RF.box.f0;have p1:=RF.box.f1;have p2:=RF.box.f2)
     | (have j:=tw1;go_at_call_of 65 (Value.slice a2 xd.length c2);refine (refMul_any (X.below t1).rd (Nat.le_refl _) (Y.below t1).rn (Nat.le_refl _) (by omega) (by omega)).mono ?_;rintro e u2 ⟨ts,ct,vt,lt,z3,z4,rfl,ot,j2⟩;have t2:Below wb.heap.size wb u2:=t1.trans (j2.mono t1.size);have tw2:=hcells t2;have HT:Hid (can ts∧val ts=val xd*val yn):=⟨ct,vt⟩;clear vt ct;have lt2:ts.length≤10000:=(by omega);clear lt;have Z:=(oz.rd.below j2).mono j2.size)
     | (go_at_call_of 65 (Value.slice a1 xn.length c1);refine (refMul_any (w:=wb.drew) X.rn (Nat.le_refl _) Y.rd (Nat.le_refl _) (by omega) (by omega)).mono ?_;rintro e u1 ⟨zs,cz,vz,lz,z1,z2,rfl,oz,j1⟩;have t1:Below wb.heap.size wb u1:=below_undrew (w:=wb) (B:=wb.heap.size) j1;have tw1:=hcells t1;have HZ:Hid (can zs∧val zs=val xn*val yd):=⟨cz,vz⟩;clear vz cz;have lz2:zs.length≤10000:=(by omega);clear lz))
   all_goals
    go_wp2
    have hR3:=RF.box.set (.bool b6) (.slice x5 n5 y5) (.slice x6 n6 y6);have r0:=hR3.c0;have r1:=hR3.c1;have r2:=hR3.c2;refine bodyPost_ret (v:=.tuple #[.agg #[.bool b6,.slice x5 n5 y5,.slice x6 n6 y6],.int .i64 err]) (by simp [results,Tryz.results18,go_sem,r0,r1,r2]) rfl ?_;have hd:=rform_done g sr R.lt bm6 hform;rw [sg_bne] at hd;exact hd.gives ⟨hx.out,hy.out⟩
theorem refDiv_z (h1:Rd w.heap.size w (.slice a1 xn.length c1) xn) (h2:Rd w.heap.size w (.slice a2 xd.length c2) xd) (h3:Rd w.heap.size w (.slice a3 yn.length c3) yn) (h4:Rd w.heap.size w (.slice a4 yd.length c4) yd) (h0:yn.length=0) :
    Calls Tryz.prog 18 #[.agg #[.bool bx,.slice a1 xn.length c1,.slice a2 xd.length c2],.agg #[.bool cy,.slice a3 yn.length c3,.slice a4 yd.length c4]] w fun e w'=>∃ b ns ds err,Hid (DivZ (RightP bx xn xd∧RightP cy yn yd) xn b ns ds err)∧RAns w b ns ds err e w':=by
 have hb0:((yn.length:Int)==0)=true:=by rw [beq_iff_eq];omega
 clear h0;obtain ⟨X,Y,R,g⟩:=in2_r (bx:=bx) (cy:=cy) w h1 h2 h3 h4;have sr:w.heap.size≤w.heap.size+1+1:=by omega
 have nx:w.heap.size≠w.heap.size+1+1:=by omega
 have ny:w.heap.size+1≠w.heap.size+1+1:=by omega
 clear h1 h2 h3 h4;go_enter Tryz.func18,Tryz.ntmps18;obtain ⟨X0,X1,X2⟩:=X.cells
 go_wp2_with fail
 clear X0 X1 X2;generalize hA:((w.alloc (.cells #[.bool bx,.slice a1 xn.length c1,.slice a2 xd.length c2] 24)).alloc (.cells #[.bool cy,.slice a3 yn.length c3,.slice a4 yd.length c4] 24)).alloc (.cells #[.bool false,.slice none 0 0,.slice none 0 0] 24)=v at *;clear hA;refine (refRight_rat X.rn X.rd).mono ?_;rintro e wa ⟨⟨r,rfl,hr⟩,ka⟩;replace X:=X.below ka;replace Y:=Y.below ka;replace R:=R.below ka;replace g:=g.trans (ka.mono g.size);clear ka
 cases r with
 | false=>
  have HP:Hid (¬ RightP bx xn xd):=fun h=>by have:=hr.2 h;cases this
  clear hr;have q0:=R.box.c0;have q1:=R.box.c1;have q2:=R.box.c2;have p0:=R.box.f0;have p1:=R.box.f1;have p2:=R.box.f2;go_wp2
  have hR3:=R.box.set (.bool false) (.slice none 0 0) (.slice none 0 0);have r0:=hR3.c0;have r1:=hR3.c1;have r2:=hR3.c2;refine bodyPost_ret (v:=.tuple #[.agg #[.bool false,.slice none 0 0,.slice none 0 0],.int .i64 22]) (by simp [results,Tryz.results18,go_sem,r0,r1,r2]) rfl ?_;exact ⟨false,[],[],22,Or.inl ⟨fun h=>HP.out h.1,rfl,rfl,rfl,rfl⟩,Below.set3 g sr _ _ _,none,0,none,0,rfl,nil_rd _,nil_rd _⟩
 | true=>
  have hx:Hid (RightP bx xn xd):=hr.1 rfl;clear hr;obtain ⟨Y0,Y1,Y2⟩:=Y.cells
  go_wp2_with fail
  clear Y0 Y1 Y2;refine (refRight_rat Y.rn Y.rd).mono ?_;rintro e wb ⟨⟨r,rfl,hr⟩,kb⟩;replace X:=X.below kb;replace Y:=Y.below kb;replace R:=R.below kb;replace g:=g.trans (kb.mono g.size);clear kb
  cases r with
  | false=>
   have HP:Hid (¬ RightP cy yn yd):=fun h=>by have:=hr.2 h;cases this
   clear hr;have q0:=R.box.c0;have q1:=R.box.c1;have q2:=R.box.c2;have p0:=R.box.f0;have p1:=R.box.f1;have p2:=R.box.f2;go_wp2
   have hR3:=R.box.set (.bool false) (.slice none 0 0) (.slice none 0 0);have r0:=hR3.c0;have r1:=hR3.c1;have r2:=hR3.c2;refine bodyPost_ret (v:=.tuple #[.agg #[.bool false,.slice none 0 0,.slice none 0 0],.int .i64 22]) (by simp [results,Tryz.results18,go_sem,r0,r1,r2]) rfl ?_;exact ⟨false,[],[],22,Or.inl ⟨fun h=>HP.out h.2,rfl,rfl,rfl,rfl⟩,Below.set3 g sr _ _ _,none,0,none,0,rfl,nil_rd _,nil_rd _⟩
  | true=>
   have hy:Hid (RightP cy yn yd):=hr.1 rfl;clear hr;have l1:=hx.out.1;have l2:=hx.out.2.1;have l3:=hy.out.1;have l4:=hy.out.2.1;by_cases hx0:xn.length=0
   · have hx1:((xn.length:Int)==0)=true:=by rw [beq_iff_eq];omega
     obtain ⟨X0,X1,X2⟩:=X.cells;obtain ⟨Y0,Y1,Y2⟩:=Y.cells
     go_wp2_with fail
     clear X0 X1 X2 Y0 Y1 Y2;refine (refOfInt_any 1 (by decide) (by decide) _).mono ?_;rintro e wc ⟨k9,bo,os,od,o1,o2,o3,o4,HO,rfl,oo,oe⟩;have R9:=R;replace X:=X.below k9;replace Y:=Y.below k9;replace R:=R.below k9;replace g:=g.trans (k9.mono g.size);have q0:=R.box.c0;have q1:=R.box.c1;have q2:=R.box.c2;have p0:=R.box.f0;have p1:=R.box.f1;have p2:=R.box.f2;go_wp2
     have hR3:=R.box.set (.bool bo) (.slice o1 os.length o2) (.slice o3 od.length o4);have r0:=hR3.c0;have r1:=hR3.c1;have r2:=hR3.c2;refine bodyPost_ret (v:=.tuple #[.agg #[.bool bo,.slice o1 os.length o2,.slice o3 od.length o4],.int .i64 0]) (by simp [results,Tryz.results18,go_sem,r0,r1,r2]) rfl ?_;obtain ⟨e1,e2,e3⟩:=whole_one HO.out;exact ⟨bo,os,od,0,Or.inr (Or.inr ⟨⟨hx.out,hy.out⟩,hx0,rfl,e1,e2,e3⟩),Below.set3 g sr _ _ _,o1,o2,o3,o4,rfl,(Own.set3 oo R9.lt _ _ _).rd,(Own.set3 oe R9.lt _ _ _).rd⟩
   · have hx1:((xn.length:Int)==0)=false:=by rw [beq_eq_false_iff_ne];omega
     obtain ⟨X0,X1,X2⟩:=X.cells;obtain ⟨Y0,Y1,Y2⟩:=Y.cells;have q0:=R.box.c0;have q1:=R.box.c1;have q2:=R.box.c2;have p0:=R.box.f0;have p1:=R.box.f1;have p2:=R.box.f2;go_wp2
     have hR3:=R.box.set (.bool false) (.slice none 0 0) (.slice none 0 0);have r0:=hR3.c0;have r1:=hR3.c1;have r2:=hR3.c2;refine bodyPost_ret (v:=.tuple #[.agg #[.bool false,.slice none 0 0,.slice none 0 0],.int .i64 3]) (by simp [results,Tryz.results18,go_sem,r0,r1,r2]) rfl ?_;exact ⟨false,[],[],3,Or.inr (Or.inl ⟨⟨hx.out,hy.out⟩,by omega,rfl,rfl,rfl,rfl⟩),Below.set3 g sr _ _ _,none,0,none,0,rfl,nil_rd _,nil_rd _⟩
end
section
variable {w:World} {bx cy:Bool} {a1 a2 a3 a4:Option Addr} {c1 c2 c3 c4:Nat} {xn xd yn yd:List Int}
theorem div_z (h1:Rd w.heap.size w (.slice a1 xn.length c1) xn) (h2:Rd w.heap.size w (.slice a2 xd.length c2) xd) (h3:Rd w.heap.size w (.slice a3 yn.length c3) yn) (h4:Rd w.heap.size w (.slice a4 yd.length c4) yd) (h0:yn.length=0) :
    Calls Tryz.prog 91 #[.agg #[.bool bx,.slice a1 xn.length c1,.slice a2 xd.length c2],.agg #[.bool cy,.slice a3 yn.length c3,.slice a4 yd.length c4]] w fun e w'=>∃ b ns ds err,Hid (DivZ (RightP bx xn xd∧RightP cy yn yd) xn b ns ds err)∧RAns w b ns ds err e w':=by
 have I:=in2_new w (.bool bx) (.slice a1 xn.length c1) (.slice a2 xd.length c2) (.bool cy) (.slice a3 yn.length c3) (.slice a4 yd.length c4);have hb0:decide ((yn.length:Int) > 0)=false:=decide_eq_false (by omega);have hb1:decide ((0:Int)<yn.length)=false:=decide_eq_false (by omega);have hb2:decide (0<yn.length)=false:=decide_eq_false (by omega);clear h0;go_enter Tryz.func91,Tryz.ntmps91
 go_wp2_with fail
 generalize hA:((((w.alloc (.cells #[.bool bx,.slice a1 xn.length c1,.slice a2 xd.length c2] 24)).alloc (.cells #[.bool cy,.slice a3 yn.length c3,.slice a4 yd.length c4] 24)).alloc (.cells #[.bool false,.slice none 0 0,.slice none 0 0] 24)).alloc (.cells #[.bool bx,.slice a1 xn.length c1,.slice a2 xd.length c2,.bool cy,.slice a3 yn.length c3,.slice a4 yd.length c4] 24))=v0 at *;clear hA;obtain ⟨hX,hY,hR,hT,g,s0⟩:=I;have X:NVar v0 w.heap.size bx a1 xn c1 a2 xd c2:=⟨by omega,hX,(h1.below g).mono g.size,(h2.below g).mono g.size⟩;have Y:NVar v0 (w.heap.size+1) cy a3 yn c3 a4 yd c4:=⟨by omega,hY,(h3.below g).mono g.size,(h4.below g).mono g.size⟩;have R:RVar v0 (w.heap.size+1+1):=⟨by omega,hR⟩;have sr:w.heap.size≤w.heap.size+1+1:=by omega
 clear hX hY hR h1 h2 h3 h4 s0;refine (allRight2 hT X.rn X.rd Y.rn Y.rd (Nat.le_refl _)).mono ?_;rintro e w0 ⟨⟨r,rfl,hr⟩,k0⟩;replace X:=X.below k0;replace Y:=Y.below k0;replace R:=R.below k0;replace g:=g.trans (k0.mono g.size);clear hT k0
 cases r with
 | false=>
  have HP:Hid (¬ (RightP bx xn xd∧RightP cy yn yd)):=fun h=>by have:=hr.2 h;cases this
  clear hr;have q0:=R.box.c0;have q1:=R.box.c1;have q2:=R.box.c2;have p0:=R.box.f0;have p1:=R.box.f1;have p2:=R.box.f2;go_wp2
  have hR3:=R.box.set (.bool false) (.slice none 0 0) (.slice none 0 0);have r0:=hR3.c0;have r1:=hR3.c1;have r2:=hR3.c2;refine bodyPost_ret (v:=.tuple #[.agg #[.bool false,.slice none 0 0,.slice none 0 0],.int .i64 22]) (by simp [results,Tryz.results91,go_sem,r0,r1,r2]) rfl ?_;exact ⟨false,[],[],22,Or.inl ⟨HP.out,rfl,rfl,rfl,rfl⟩,Below.set3 g sr _ _ _,none,0,none,0,rfl,nil_rd _,nil_rd _⟩
 | true=>
  have HP:Hid (RightP bx xn xd∧RightP cy yn yd):=hr.1 rfl;clear hr;by_cases hx0:xn.length=0
  · have hx1:decide ((xn.length:Int) > 0)=false:=decide_eq_false (by omega)
    have hx2:decide ((0:Int)<xn.length)=false:=decide_eq_false (by omega);have hx3:decide (0<xn.length)=false:=decide_eq_false (by omega);have HX0:Hid (xn.length=0):=hx0;clear hx0;obtain ⟨X0,X1,X2⟩:=X.cells;obtain ⟨Y0,Y1,Y2⟩:=Y.cells
    go_wp2_with fail
    clear X0 X1 X2 Y0 Y1 Y2;refine (ofInt_any 1 (by decide) (by decide) _).mono ?_;rintro e wc ⟨k9,bo,os,od,o1,o2,o3,o4,HO,rfl,oo,oe⟩;have R9:=R;replace X:=X.below k9;replace Y:=Y.below k9;replace R:=R.below k9;replace g:=g.trans (k9.mono g.size);have q0:=R.box.c0;have q1:=R.box.c1;have q2:=R.box.c2;have p0:=R.box.f0;have p1:=R.box.f1;have p2:=R.box.f2;go_wp2
    have hR3:=R.box.set (.bool bo) (.slice o1 os.length o2) (.slice o3 od.length o4);have r0:=hR3.c0;have r1:=hR3.c1;have r2:=hR3.c2;refine bodyPost_ret (v:=.tuple #[.agg #[.bool bo,.slice o1 os.length o2,.slice o3 od.length o4],.int .i64 0]) (by simp [results,Tryz.results91,go_sem,r0,r1,r2]) rfl ?_;obtain ⟨e1,e2,e3⟩:=whole_one HO.out;exact ⟨bo,os,od,0,Or.inr (Or.inr ⟨HP.out,HX0.out,rfl,e1,e2,e3⟩),Below.set3 g sr _ _ _,o1,o2,o3,o4,rfl,(Own.set3 oo R9.lt _ _ _).rd,(Own.set3 oe R9.lt _ _ _).rd⟩
  · have hx1:decide ((xn.length:Int) > 0)=true:=decide_eq_true (by omega)
    have hx2:decide ((0:Int)<xn.length)=true:=decide_eq_true (by omega);have hx3:decide (0<xn.length)=true:=decide_eq_true (by omega);obtain ⟨X0,X1,X2⟩:=X.cells;obtain ⟨Y0,Y1,Y2⟩:=Y.cells;have q0:=R.box.c0;have q1:=R.box.c1;have q2:=R.box.c2;have p0:=R.box.f0;have p1:=R.box.f1;have p2:=R.box.f2;go_wp2
    have hR3:=R.box.set (.bool false) (.slice none 0 0) (.slice none 0 0);have r0:=hR3.c0;have r1:=hR3.c1;have r2:=hR3.c2;refine bodyPost_ret (v:=.tuple #[.agg #[.bool false,.slice none 0 0,.slice none 0 0],.int .i64 3]) (by simp [results,Tryz.results91,go_sem,r0,r1,r2]) rfl ?_;exact ⟨false,[],[],3,Or.inr (Or.inl ⟨HP.out,by omega,rfl,rfl,rfl,rfl⟩),Below.set3 g sr _ _ _,none,0,none,0,rfl,nil_rd _,nil_rd _⟩
end
section
variable {w:World} {b c:Bool} {x1 x2 x3 x4:Option Addr} {y1 y2 y3 y4 k j:Nat} {xn xd yn yd:List Int}
end
/-- What a quotient answers. -/
def QuotSpec (P:Prop) (bx:Bool) (xn xd:List Int) (cy:Bool) (yn yd:List Int) (b:Bool) (ns ds:List Int) (err:Int):Prop:=
 (yn.length=0∧DivZ P xn b ns ds err)∨(0<yn.length∧OutSpec P (sg bx (val xn)*sg cy (val yd)) (val xd*val yn) b ns ds err)
section
variable {w:World} {bx cy:Bool} {a1 a2 a3 a4:Option Addr} {c1 c2 c3 c4:Nat} {xn xd yn yd:List Int}
theorem div_all (h1:Rd w.heap.size w (.slice a1 xn.length c1) xn) (h2:Rd w.heap.size w (.slice a2 xd.length c2) xd) (h3:Rd w.heap.size w (.slice a3 yn.length c3) yn) (h4:Rd w.heap.size w (.slice a4 yd.length c4) yd) :
    Calls Tryz.prog 91 #[.agg #[.bool bx,.slice a1 xn.length c1,.slice a2 xd.length c2],.agg #[.bool cy,.slice a3 yn.length c3,.slice a4 yd.length c4]] w fun e w'=>∃ b ns ds err,Hid (QuotSpec (RightP bx xn xd∧RightP cy yn yd) bx xn xd cy yn yd b ns ds err)∧RAns w b ns ds err e w':=by
 by_cases h0:yn.length=0
 · refine (div_z h1 h2 h3 h4 h0).mono ?_
   rintro e w' ⟨b,ns,ds,err,HS,hr⟩;exact ⟨b,ns,ds,err,Or.inl ⟨h0,HS.out⟩,hr⟩
 · refine (div_nz h1 h2 h3 h4 (Nat.le_refl _) (by omega)).mono ?_
   intro e w' h;obtain ⟨b,ns,ds,err,HS,hr⟩:=h.spec;exact ⟨b,ns,ds,err,Or.inr ⟨by omega,HS.out⟩,hr⟩
theorem refDiv_all (h1:Rd w.heap.size w (.slice a1 xn.length c1) xn) (h2:Rd w.heap.size w (.slice a2 xd.length c2) xd) (h3:Rd w.heap.size w (.slice a3 yn.length c3) yn) (h4:Rd w.heap.size w (.slice a4 yd.length c4) yd) :
    Calls Tryz.prog 18 #[.agg #[.bool bx,.slice a1 xn.length c1,.slice a2 xd.length c2],.agg #[.bool cy,.slice a3 yn.length c3,.slice a4 yd.length c4]] w fun e w'=>∃ b ns ds err,Hid (QuotSpec (RightP bx xn xd∧RightP cy yn yd) bx xn xd cy yn yd b ns ds err)∧RAns w b ns ds err e w':=by
 by_cases h0:yn.length=0
 · refine (refDiv_z h1 h2 h3 h4 h0).mono ?_
   rintro e w' ⟨b,ns,ds,err,HS,hr⟩;exact ⟨b,ns,ds,err,Or.inl ⟨h0,HS.out⟩,hr⟩
 · refine (refDiv_nz h1 h2 h3 h4 (by omega)).mono ?_
   intro e w' h;obtain ⟨b,ns,ds,err,HS,hr⟩:=h.spec;exact ⟨b,ns,ds,err,Or.inr ⟨by omega,HS.out⟩,hr⟩
end
theorem big_cross {N D N' D':Int} (hD:0<D) (h:N*D'=N'*D) (hb:Big N D):Big N' D':=by
 obtain ⟨b,ns,ds,cn,cd,hd,hg,hv,hl⟩:=hb;refine ⟨b,ns,ds,cn,cd,hd,hg,cancel hD ?_,hl⟩;have e1:sg b (val ns)*D'*D=sg b (val ns)*D*D':=by ac_rfl
 have e2:N'*val ds*D=N'*D*val ds:=by ac_rfl
 rw [e1,hv,e2,← h]
 ac_rfl
theorem floor_cross {N D Q q:Int} (hD:0<D) (hq:0<q) (h:Q*D=N*q):Q/q=N/D:=by
 have e1:Q*D/(q*D)=Q/q:=Int.mul_ediv_mul_of_pos_left Q q hD;have e2:N*q/(D*q)=N/D:=Int.mul_ediv_mul_of_pos_left N D hq;rw [← e1,h,Int.mul_comm q D,e2]
theorem res_cross {Y T xd yd td:Int} {K:Int} (h:T*xd=K*td):(Y*td + -T*yd)*(yd*xd)=(Y*xd + -K*yd)*(yd*td):=by
 have e1:(Y*td + -T*yd)*(yd*xd)=Y*td*(yd*xd) + -(T*xd)*(yd*yd):=by
  rw [Int.add_mul,Int.neg_mul,Int.neg_mul,Int.neg_mul]
  congr 2
  ac_rfl
 have e2:(Y*xd + -K*yd)*(yd*td)=Y*xd*(yd*td) + -(K*td)*(yd*yd):=by
  rw [Int.add_mul,Int.neg_mul,Int.neg_mul,Int.neg_mul]
  congr 2
  ac_rfl
 rw [e1,e2,h]
 congr 1
 ac_rfl
theorem whole_den {b:Bool} {ns ds:List Int} {F:Int} (cn:can ns) (cd:can ds) (hd:0<ds.length) (hg:gI (val ns) (val ds)=1) (h:sg b (val ns)=F*val ds):ds=[1]:=by
 have dp:0<val ds:=by have:=can_low cd hd;have:=pw_pos (ds.length - 1);omega
 have np:=(val_bound cn.1).1;refine limbs_of cd 1 (by omega) (by omega) ?_;obtain ⟨n,en⟩:=Int.eq_ofNat_of_zero_le np;obtain ⟨d,ed⟩:=Int.eq_ofNat_of_zero_le (Int.le_of_lt dp);rw [en,ed] at h;have hdv:(d:Int) ∣ (n:Int):=by
  cases b with
  | false=>exact ⟨F,by rw [sg_false] at h;rw [h,Int.mul_comm]⟩
  | true=>exact ⟨-F,by simp [sg] at h;rw [Int.mul_neg,Int.mul_comm,← h,Int.neg_neg]⟩
 have hdn:d ∣ n:=Int.natCast_dvd_natCast.1 hdv;rw [en,ed] at hg;rw [ed];unfold gI at hg;simp only [Int.toNat_natCast] at hg;rw [Nat.gcd_eq_right hdn] at hg;exact hg
/-- What stands in a residue's way. -/
def ResBig (N1 D1 X xd Y yd:Int):Prop:=Big N1 D1∨Big (N1/D1) 1∨Big (X*(N1/D1)) xd∨Big (Y*xd + -(X*(N1/D1))*yd) (yd*xd)
/-- What rat.Residue answers. -/
def Residues (w':World) (k:Nat) (P:Prop) (bx:Bool) (xn xd:List Int) (cy:Bool) (yn yd:List Int) (b:Bool) (x1:Option Addr) (n y1:Nat) (x2:Option Addr) (m y2:Nat) (err:Int):Prop:=
 (¬ P∧err=22∧b=false∧x1=none∧n=0∧y1=0∧x2=none∧m=0∧y2=0) ∨
 (P∧xn.length=0∧err=0∧b=cy∧n=yn.length∧m=yd.length∧Own k w' (.slice x1 n y1) yn∧Own k w' (.slice x2 m y2) yd) ∨
 (P∧0<xn.length∧err=8∧b=false∧x1=none∧n=0∧y1=0∧x2=none∧m=0∧y2=0∧ResBig (sg cy (val yn)*sg bx (val xd)) (val yd*val xn) (sg bx (val xn)) (val xd) (sg cy (val yn)) (val yd)) ∨
 (P∧0<xn.length∧err=0∧¬ ResBig (sg cy (val yn)*sg bx (val xd)) (val yd*val xn) (sg bx (val xn)) (val xd) (sg cy (val yn)) (val yd)∧∃ ns ds,n=ns.length∧m=ds.length∧Own k w' (.slice x1 n y1) ns∧Own k w' (.slice x2 m y2) ds∧RightP b ns ds∧sg b (val ns)*(val yd*val xd)=(sg cy (val yn)*val xd + -(sg bx (val xn)*((sg cy (val yn)*sg bx (val xd))/(val yd*val xn)))*val yd)*val ds)
def ResGives (w:World) (P:Prop) (bx:Bool) (xn xd:List Int) (cy:Bool) (yn yd:List Int) (e:Ending) (w':World):Prop:=
 Below w.heap.size w w'∧∃ b x1 n y1 x2 m y2 err,e=.returned (.tuple #[.agg #[.bool b,.slice x1 n y1,.slice x2 m y2],.int .i64 err])∧Hid (Residues w' w.heap.size P bx xn xd cy yn yd b x1 n y1 x2 m y2 err)
section
variable {w:World} {bx cy:Bool} {a1 a2 a3 a4:Option Addr} {c1 c2 c3 c4:Nat} {xn xd yn yd:List Int}
theorem res_small {w':World} {P:Prop} {e:Ending} (hb:Below w.heap.size w w') (he:e=.returned (.tuple #[.agg #[.bool false,.slice none 0 0,.slice none 0 0],.int .i64 22])) (hP:¬ P):ResGives w P bx xn xd cy yn yd e w':=
 ⟨hb,false,none,0,0,none,0,0,22,he,Or.inl ⟨hP,rfl,rfl,rfl,rfl,rfl,rfl,rfl,rfl⟩⟩
theorem res_big {w':World} {P:Prop} {e:Ending} (hb:Below w.heap.size w w') (he:e=.returned (.tuple #[.agg #[.bool false,.slice none 0 0,.slice none 0 0],.int .i64 8])) (hP:P) (h0:0<xn.length) (hB:ResBig (sg cy (val yn)*sg bx (val xd)) (val yd*val xn) (sg bx (val xn)) (val xd) (sg cy (val yn)) (val yd)):ResGives w P bx xn xd cy yn yd e w':=
 ⟨hb,false,none,0,0,none,0,0,8,he,Or.inr (Or.inr (Or.inl ⟨hP,h0,rfl,rfl,rfl,rfl,rfl,rfl,rfl,rfl,hB⟩))⟩
theorem residue_rat (h1:Rd w.heap.size w (.slice a1 xn.length c1) xn) (h2:Rd w.heap.size w (.slice a2 xd.length c2) xd) (h3:Rd w.heap.size w (.slice a3 yn.length c3) yn) (h4:Rd w.heap.size w (.slice a4 yd.length c4) yd) :
    Calls Tryz.prog 94 #[.agg #[.bool bx,.slice a1 xn.length c1,.slice a2 xd.length c2],.agg #[.bool cy,.slice a3 yn.length c3,.slice a4 yd.length c4]] w fun e w'=>ResGives w (RightP bx xn xd∧RightP cy yn yd) bx xn xd cy yn yd e w':=by
 have I:=in2_new w (.bool bx) (.slice a1 xn.length c1) (.slice a2 xd.length c2) (.bool cy) (.slice a3 yn.length c3) (.slice a4 yd.length c4);go_enter Tryz.func94,Tryz.ntmps94
 go_wp2_with fail
 generalize hA:((((w.alloc (.cells #[.bool bx,.slice a1 xn.length c1,.slice a2 xd.length c2] 24)).alloc (.cells #[.bool cy,.slice a3 yn.length c3,.slice a4 yd.length c4] 24)).alloc (.cells #[.bool false,.slice none 0 0,.slice none 0 0] 24)).alloc (.cells #[.bool bx,.slice a1 xn.length c1,.slice a2 xd.length c2,.bool cy,.slice a3 yn.length c3,.slice a4 yd.length c4] 24))=v0 at *;clear hA;obtain ⟨hX,hY,hR,hT,g,s0⟩:=I;have X:NVar v0 w.heap.size bx a1 xn c1 a2 xd c2:=⟨by omega,hX,(h1.below g).mono g.size,(h2.below g).mono g.size⟩;have Y:NVar v0 (w.heap.size+1) cy a3 yn c3 a4 yd c4:=⟨by omega,hY,(h3.below g).mono g.size,(h4.below g).mono g.size⟩;have R:RVar v0 (w.heap.size+1+1):=⟨by omega,hR⟩;have s1:w.heap.size≤w.heap.size+1+1:=by omega
 clear hX hY hR h1 h2 h3 h4 s0;refine (allRight2 hT X.rn X.rd Y.rn Y.rd (Nat.le_refl _)).mono ?_;rintro e w0 ⟨⟨r,rfl,hr⟩,k0⟩;replace X:=X.below k0;replace Y:=Y.below k0;replace R:=R.below k0;replace g:=g.trans (k0.mono g.size);clear hT k0
 cases r with
 | false=>
  have HP:Hid (¬ (RightP bx xn xd∧RightP cy yn yd)):=fun h=>by have:=hr.2 h;cases this
  clear hr;have q0:=R.box.c0;have q1:=R.box.c1;have q2:=R.box.c2;have p0:=R.box.f0;have p1:=R.box.f1;have p2:=R.box.f2;go_wp2
  have hR3:=R.box.set (.bool false) (.slice none 0 0) (.slice none 0 0);have r0:=hR3.c0;have r1:=hR3.c1;have r2:=hR3.c2;refine bodyPost_ret (v:=.tuple #[.agg #[.bool false,.slice none 0 0,.slice none 0 0],.int .i64 22]) (by simp [results,Tryz.results94,go_sem,r0,r1,r2]) rfl ?_;exact res_small (Below.set3 g s1 _ _ _) rfl HP.out
 | true=>
  have HP:Hid (RightP bx xn xd∧RightP cy yn yd):=hr.1 rfl;clear hr;by_cases hx0:0<xn.length
  · have hxb:((xn.length:Int)==0)=false:=by rw [beq_eq_false_iff_ne];omega
    have HX0:Hid (0<val xn):=by
     have h5:=can_low HP.out.1.2.2.1 hx0;have h6:=pw_pos (xn.length - 1);unfold Hid;omega
    have HD1:Hid (0<val yd*val xn):=Int.mul_pos (right_pos HP.out.2).1 HX0.out;obtain ⟨X0,X1,X2⟩:=X.cells;obtain ⟨Y0,Y1,Y2⟩:=Y.cells
    go_wp2_with fail
    clear X0 X1 X2 Y0 Y1 Y2;refine (by_rat Y.rn Y.rd X.rn X.rd (Nat.le_refl _) HP.out.2 HP.out.1 hx0).mono ?_;intro e w1 hm;obtain ⟨k2,⟨rfl,hbig⟩ | ⟨bq,nq,dq,xq,yq,uq,tq,rfl,oq,qq,Pq,hq⟩⟩:=gives_or (hm.gives True.intro) True.intro
    · replace X:=X.below k2
      replace Y:=Y.below k2;replace R:=R.below k2;replace g:=g.trans (k2.mono g.size);have HB:Hid (ResBig (sg cy (val yn)*sg bx (val xd)) (val yd*val xn) (sg bx (val xn)) (val xd) (sg cy (val yn)) (val yd)):=Or.inl hbig;clear hbig hm;have kz3:=below_alloc w1 (.cells #[.bool false,.slice none 0 0,.slice none 0 0] 24);replace X:=X.below kz3;replace Y:=Y.below kz3;replace R:=R.below kz3;replace g:=g.trans (kz3.mono g.size);clear kz3;replace R:=R;have q0:=R.box.c0;have q1:=R.box.c1;have q2:=R.box.c2;have p0:=R.box.f0;have p1:=R.box.f1;have p2:=R.box.f2;go_wp2
      have hR3:=R.box.set (.bool false) (.slice none 0 0) (.slice none 0 0);have r0:=hR3.c0;have r1:=hR3.c1;have r2:=hR3.c2;refine bodyPost_ret (v:=.tuple #[.agg #[.bool false,.slice none 0 0,.slice none 0 0],.int .i64 8]) (by simp [results,Tryz.results94,go_sem,r0,r1,r2]) rfl ?_;exact res_big (Below.set3 g s1 _ _ _) rfl HP.out hx0 HB.out
    · replace X:=X.below k2
      replace Y:=Y.below k2;replace R:=R.below k2;replace g:=g.trans (k2.mono g.size);clear hm;have HQ:Hid (RightP bq nq dq∧sg bq (val nq)/val dq=(sg cy (val yn)*sg bx (val xd))/(val yd*val xn)∧¬ Big (sg cy (val yn)*sg bx (val xd)) (val yd*val xn)):=⟨Pq,floor_cross HD1.out (right_pos Pq).1 hq,not_big Pq hq HD1.out⟩;clear Pq hq;have ka4:=below_alloc w1 (.cells #[.bool bq,.slice xq nq.length yq,.slice uq dq.length tq] 24);have Q:=nvar_new (b:=bq) oq.rd qq.rd;replace X:=X.below ka4;replace Y:=Y.below ka4;replace R:=R.below ka4;replace g:=g.trans (ka4.mono g.size);clear ka4;obtain ⟨Q0,Q1,Q2⟩:=Q.cells
      go_wp2_with fail
      clear Q0 Q1 Q2;generalize hA:(w1.alloc (.cells #[.bool bq,.slice xq nq.length yq,.slice uq dq.length tq] 24))=v5 at *;clear hA;refine (floor_rat Q.rn Q.rd).mono ?_;intro e w6 hm;obtain ⟨k7,⟨rfl,hbig⟩ | ⟨bf,nf,df,xf,yf,uf,tf,rfl,of,qf,Pf,hf⟩⟩:=gives_or hm HQ.out.1
      · replace X:=X.below k7
        replace Y:=Y.below k7;replace Q:=Q.below k7;replace R:=R.below k7;replace g:=g.trans (k7.mono g.size);have HB:Hid (ResBig (sg cy (val yn)*sg bx (val xd)) (val yd*val xn) (sg bx (val xn)) (val xd) (sg cy (val yn)) (val yd)):=Or.inr (Or.inl (by rw [HQ.out.2.1] at hbig;exact hbig));clear hbig hm;have kz8:=below_alloc w6 (.cells #[.bool false,.slice none 0 0,.slice none 0 0] 24);replace X:=X.below kz8;replace Y:=Y.below kz8;replace Q:=Q.below kz8;replace R:=R.below kz8;replace g:=g.trans (kz8.mono g.size);clear kz8;replace R:=R;have q0:=R.box.c0;have q1:=R.box.c1;have q2:=R.box.c2;have p0:=R.box.f0;have p1:=R.box.f1;have p2:=R.box.f2;go_wp2
        have hR3:=R.box.set (.bool false) (.slice none 0 0) (.slice none 0 0);have r0:=hR3.c0;have r1:=hR3.c1;have r2:=hR3.c2;refine bodyPost_ret (v:=.tuple #[.agg #[.bool false,.slice none 0 0,.slice none 0 0],.int .i64 8]) (by simp [results,Tryz.results94,go_sem,r0,r1,r2]) rfl ?_;exact res_big (Below.set3 g s1 _ _ _) rfl HP.out hx0 HB.out
      · replace X:=X.below k7
        replace Y:=Y.below k7;replace Q:=Q.below k7;replace R:=R.below k7;replace g:=g.trans (k7.mono g.size);clear hm;rw [HQ.out.2.1] at hf;have HF:Hid (RightP bf nf df∧df=[1]∧sg bf (val nf)=(sg cy (val yn)*sg bx (val xd))/(val yd*val xn)∧¬ Big ((sg cy (val yn)*sg bx (val xd))/(val yd*val xn)) 1):=by
         have h5:=not_big Pf hf (by decide);rw [Int.mul_one] at hf;have e2:=whole_den Pf.2.2.1 Pf.2.2.2.1 Pf.2.2.2.2.2.1 Pf.2.2.2.2.2.2 hf;refine ⟨Pf,e2,?_,h5⟩;rw [hf,e2,one_val,Int.mul_one]
        clear Pf hf;have ka9:=below_alloc w6 (.cells #[.bool bf,.slice xf nf.length yf,.slice uf df.length tf] 24);have G:=nvar_new (b:=bf) of.rd qf.rd;replace X:=X.below ka9;replace Y:=Y.below ka9;replace Q:=Q.below ka9;replace R:=R.below ka9;replace g:=g.trans (ka9.mono g.size);clear ka9;obtain ⟨X0,X1,X2⟩:=X.cells;obtain ⟨G0,G1,G2⟩:=G.cells
        go_wp2_with fail
        clear G0 G1 G2 X0 X1 X2;generalize hA:(w6.alloc (.cells #[.bool bf,.slice xf nf.length yf,.slice uf df.length tf] 24))=v10 at *;clear hA;refine (times_rat X.rn X.rd G.rn G.rd (Nat.le_refl _) HP.out.1 HF.out.1).mono ?_;intro e w11 hm;obtain ⟨k12,⟨rfl,hbig⟩ | ⟨bt,nt,dt,xt,yt,ut,tt,rfl,ot,qt,Pt,ht⟩⟩:=gives_or (hm.gives True.intro) True.intro
        · replace X:=X.below k12
          replace Y:=Y.below k12;replace Q:=Q.below k12;replace G:=G.below k12;replace R:=R.below k12;replace g:=g.trans (k12.mono g.size);have HB:Hid (ResBig (sg cy (val yn)*sg bx (val xd)) (val yd*val xn) (sg bx (val xn)) (val xd) (sg cy (val yn)) (val yd)):=Or.inr (Or.inr (Or.inl (by rw [HF.out.2.1,one_val,Int.mul_one,HF.out.2.2.1] at hbig;exact hbig)));clear hbig hm;have kz13:=below_alloc w11 (.cells #[.bool false,.slice none 0 0,.slice none 0 0] 24);replace X:=X.below kz13;replace Y:=Y.below kz13;replace Q:=Q.below kz13;replace G:=G.below kz13;replace R:=R.below kz13;replace g:=g.trans (kz13.mono g.size);clear kz13;replace R:=R;have q0:=R.box.c0;have q1:=R.box.c1;have q2:=R.box.c2;have p0:=R.box.f0;have p1:=R.box.f1;have p2:=R.box.f2;go_wp2
          have hR3:=R.box.set (.bool false) (.slice none 0 0) (.slice none 0 0);have r0:=hR3.c0;have r1:=hR3.c1;have r2:=hR3.c2;refine bodyPost_ret (v:=.tuple #[.agg #[.bool false,.slice none 0 0,.slice none 0 0],.int .i64 8]) (by simp [results,Tryz.results94,go_sem,r0,r1,r2]) rfl ?_;exact res_big (Below.set3 g s1 _ _ _) rfl HP.out hx0 HB.out
        · replace X:=X.below k12
          replace Y:=Y.below k12;replace Q:=Q.below k12;replace G:=G.below k12;replace R:=R.below k12;replace g:=g.trans (k12.mono g.size);clear hm;have HT:Hid (RightP bt nt dt∧sg bt (val nt)*val xd=sg bx (val xn)*((sg cy (val yn)*sg bx (val xd))/(val yd*val xn))*val dt∧¬ Big (sg bx (val xn)*((sg cy (val yn)*sg bx (val xd))/(val yd*val xn))) (val xd)):=by
           rw [HF.out.2.1,one_val,Int.mul_one,HF.out.2.2.1] at ht;exact ⟨Pt,ht,not_big Pt ht (right_pos HP.out.1).1⟩
          clear Pt ht;have ka14:=below_alloc w11 (.cells #[.bool bt,.slice xt nt.length yt,.slice ut dt.length tt] 24);have V:=nvar_new (b:=bt) ot.rd qt.rd;replace X:=X.below ka14;replace Y:=Y.below ka14;replace Q:=Q.below ka14;replace G:=G.below ka14;replace R:=R.below ka14;replace g:=g.trans (ka14.mono g.size);clear ka14;obtain ⟨Y0,Y1,Y2⟩:=Y.cells;obtain ⟨V0,V1,V2⟩:=V.cells
          go_wp2_with fail
          clear V0 V1 V2 Y0 Y1 Y2;generalize hA:(w11.alloc (.cells #[.bool bt,.slice xt nt.length yt,.slice ut dt.length tt] 24))=v15 at *;clear hA;have gk:=g;have Rk:=R;refine (sub_rat Y.rn Y.rd V.rn V.rd (Nat.le_refl _)).mono ?_;intro e w16 hm;obtain ⟨k17,hor⟩:=gives_or hm ⟨HP.out.2,HT.out.1⟩;have HC:Hid ((sg cy (val yn)*val dt+sg (!bt) (val nt)*val yd)*(val yd*val xd)=(sg cy (val yn)*val xd + -(sg bx (val xn)*((sg cy (val yn)*sg bx (val xd))/(val yd*val xn)))*val yd)*(val yd*val dt)):=by
           unfold Hid;rw [sg_not];exact res_cross HT.out.2.1
          have HDt:Hid (0<val yd*val dt):=Int.mul_pos (right_pos HP.out.2).1 (right_pos HT.out.1).1;have HDx:Hid (0<val yd*val xd):=Int.mul_pos (right_pos HP.out.2).1 (right_pos HP.out.1).1;clear hm;obtain ⟨rfl,hbig⟩ | ⟨b6,ns,ds,x5,y5,x6,y6,rfl,on,od,hr,hv⟩:=hor
          · replace X:=X.below k17
            replace Y:=Y.below k17;replace Q:=Q.below k17;replace G:=G.below k17;replace V:=V.below k17;replace R:=R.below k17;replace g:=g.trans (k17.mono g.size);have HB:Hid (ResBig (sg cy (val yn)*sg bx (val xd)) (val yd*val xn) (sg bx (val xn)) (val xd) (sg cy (val yn)) (val yd)):=Or.inr (Or.inr (Or.inr (big_cross HDt.out HC.out hbig)));clear hbig;have q0:=R.box.c0;have q1:=R.box.c1;have q2:=R.box.c2;have p0:=R.box.f0;have p1:=R.box.f1;have p2:=R.box.f2;go_wp2
            have hR3:=R.box.set (.bool false) (.slice none 0 0) (.slice none 0 0);have r0:=hR3.c0;have r1:=hR3.c1;have r2:=hR3.c2;refine bodyPost_ret (v:=.tuple #[.agg #[.bool false,.slice none 0 0,.slice none 0 0],.int .i64 8]) (by simp [results,Tryz.results94,go_sem,r0,r1,r2]) rfl ?_;exact res_big (Below.set3 g s1 _ _ _) rfl HP.out hx0 HB.out
          · replace X:=X.below k17
            replace Y:=Y.below k17;replace Q:=Q.below k17;replace G:=G.below k17;replace V:=V.below k17;replace R:=R.below k17;replace g:=g.trans (k17.mono g.size);have HV:Hid (RightP b6 ns ds∧sg b6 (val ns)*(val yd*val xd)=(sg cy (val yn)*val xd + -(sg bx (val xn)*((sg cy (val yn)*sg bx (val xd))/(val yd*val xn)))*val yd)*val ds):=by
             refine ⟨hr,cancel HDt.out ?_⟩;have e1:sg b6 (val ns)*(val yd*val xd)*(val yd*val dt)=sg b6 (val ns)*(val yd*val dt)*(val yd*val xd):=by ac_rfl
             have e2:(sg cy (val yn)*val xd + -(sg bx (val xn)*((sg cy (val yn)*sg bx (val xd))/(val yd*val xn)))*val yd)*val ds*(val yd*val dt)=(sg cy (val yn)*val xd + -(sg bx (val xn)*((sg cy (val yn)*sg bx (val xd))/(val yd*val xn)))*val yd)*(val yd*val dt)*val ds:=by ac_rfl
             rw [e1,hv,e2,← HC.out]
             ac_rfl
            clear hr hv;have q0:=R.box.c0;have q1:=R.box.c1;have q2:=R.box.c2;have p0:=R.box.f0;have p1:=R.box.f1;have p2:=R.box.f2;go_wp2
            have hR3:=R.box.set (.bool b6) (.slice x5 ns.length y5) (.slice x6 ds.length y6);have r0:=hR3.c0;have r1:=hR3.c1;have r2:=hR3.c2;refine bodyPost_ret (v:=.tuple #[.agg #[.bool b6,.slice x5 ns.length y5,.slice x6 ds.length y6],.int .i64 0]) (by simp [results,Tryz.results94,go_sem,r0,r1,r2]) rfl ?_;exact ⟨Below.set3 g s1 _ _ _,b6,x5,ns.length,y5,x6,ds.length,y6,0,rfl,Or.inr (Or.inr (Or.inr ⟨HP.out,hx0,rfl,(by
             rintro (h | h | h | h)
             · exact HQ.out.2.2 h
             · exact HF.out.2.2.2 h
             · exact HT.out.2.2 h
             · exact not_big HV.out.1 HV.out.2 HDx.out h),ns,ds,rfl,rfl,(Own.set3 on Rk.lt _ _ _).mono gk.size,(Own.set3 od Rk.lt _ _ _).mono gk.size,HV.out.1,HV.out.2⟩))⟩
  · have hxb:((xn.length:Int)==0)=true:=by rw [beq_iff_eq];omega
    have HBy:Hid ((cy && decide (0<yn.length))=cy):=by
     unfold Hid
     cases cy with
     | false=>rfl
     | true=>
      have h5:=HP.out.2.2.2.2.2.1;rw [decide_eq_true (by by_cases h6:yn.length=0;exact absurd ⟨rfl,h6⟩ h5;omega)];rfl
    have Hz:Hid (xn.length=0):=by unfold Hid;omega
    obtain ⟨X0,X1,X2⟩:=X.cells;obtain ⟨Y0,Y1,Y2⟩:=Y.cells
    go_wp2_with fail
    clear X0 X1 X2 Y0 Y1 Y2;have gk:=g;have Rk:=R;refine (withSign_rat (b:=cy) Y.rn Y.rd (Nat.le_refl _) HP.out.2).mono ?_;rintro e wz ⟨kz,x5,y5,x6,y6,he,on,od⟩;rw [HBy.out] at he;subst he;replace X:=X.below kz;replace Y:=Y.below kz;replace R:=R.below kz;replace g:=g.trans (kz.mono g.size);have q0:=R.box.c0;have q1:=R.box.c1;have q2:=R.box.c2;have p0:=R.box.f0;have p1:=R.box.f1;have p2:=R.box.f2;go_wp2
    have hR3:=R.box.set (.bool cy) (.slice x5 yn.length y5) (.slice x6 yd.length y6);have r0:=hR3.c0;have r1:=hR3.c1;have r2:=hR3.c2;refine bodyPost_ret (v:=.tuple #[.agg #[.bool cy,.slice x5 yn.length y5,.slice x6 yd.length y6],.int .i64 0]) (by simp [results,Tryz.results94,go_sem,r0,r1,r2]) rfl ?_;exact ⟨Below.set3 g s1 _ _ _,cy,x5,yn.length,y5,x6,yd.length,y6,0,rfl,Or.inr (Or.inl ⟨HP.out,Hz.out,rfl,rfl,rfl,rfl,(Own.set3 on Rk.lt _ _ _).mono gk.size,(Own.set3 od Rk.lt _ _ _).mono gk.size⟩)⟩
end
theorem RVar.by' {w:World} {j k:Nat} {c:Bool} {a3 a4:Option Addr} {c3 c4:Nat} {ms es:List Int} (R:RVar w j) (P:NVar w k c a3 ms c3 a4 es c4) (h:j≠k) (x y z:Value):RVar (((w.setCell ⟨k,0,none⟩ x).setCell ⟨k,1,none⟩ y).setCell ⟨k,2,none⟩ z) j:=by
 have szz:(((w.setCell ⟨k,0,none⟩ x).setCell ⟨k,1,none⟩ y).setCell ⟨k,2,none⟩ z).heap.size=w.heap.size:=by simp [World.setCell]
 exact ⟨by rw [szz];exact R.lt,R.box.other h _ _ _⟩
section
variable {w:World} {bx cy:Bool} {a1 a2 a3 a4:Option Addr} {c1 c2 c3 c4:Nat} {xn xd yn yd:List Int}
theorem refResidue_rat (h1:Rd w.heap.size w (.slice a1 xn.length c1) xn) (h2:Rd w.heap.size w (.slice a2 xd.length c2) xd) (h3:Rd w.heap.size w (.slice a3 yn.length c3) yn) (h4:Rd w.heap.size w (.slice a4 yd.length c4) yd) :
    Calls Tryz.prog 38 #[.agg #[.bool bx,.slice a1 xn.length c1,.slice a2 xd.length c2],.agg #[.bool cy,.slice a3 yn.length c3,.slice a4 yd.length c4]] w fun e w'=>ResGives w (RightP bx xn xd∧RightP cy yn yd) bx xn xd cy yn yd e w':=by
 obtain ⟨X,Y,R,g⟩:=in2_r (bx:=bx) (cy:=cy) w h1 h2 h3 h4;have sr:w.heap.size≤w.heap.size+1+1:=by omega
 have nx:w.heap.size≠w.heap.size+1+1:=by omega
 have ny:w.heap.size+1≠w.heap.size+1+1:=by omega
 clear h1 h2 h3 h4;go_enter Tryz.func38,Tryz.ntmps38;obtain ⟨X0,X1,X2⟩:=X.cells
 go_wp2_with fail
 clear X0 X1 X2;generalize hA:((w.alloc (.cells #[.bool bx,.slice a1 xn.length c1,.slice a2 xd.length c2] 24)).alloc (.cells #[.bool cy,.slice a3 yn.length c3,.slice a4 yd.length c4] 24)).alloc (.cells #[.bool false,.slice none 0 0,.slice none 0 0] 24)=v at *;clear hA;refine (refRight_rat X.rn X.rd).mono ?_;rintro e wa ⟨⟨r,rfl,hr⟩,ka⟩;replace X:=X.below ka;replace Y:=Y.below ka;replace R:=R.below ka;replace g:=g.trans (ka.mono g.size);clear ka
 cases r with
 | false=>
  have HP:Hid (¬ RightP bx xn xd):=fun h=>by have:=hr.2 h;cases this
  clear hr;have q0:=R.box.c0;have q1:=R.box.c1;have q2:=R.box.c2;have p0:=R.box.f0;have p1:=R.box.f1;have p2:=R.box.f2;go_wp2
  have hR3:=R.box.set (.bool false) (.slice none 0 0) (.slice none 0 0);have r0:=hR3.c0;have r1:=hR3.c1;have r2:=hR3.c2;refine bodyPost_ret (v:=.tuple #[.agg #[.bool false,.slice none 0 0,.slice none 0 0],.int .i64 22]) (by simp [results,Tryz.results38,go_sem,r0,r1,r2]) rfl ?_;exact res_small (Below.set3 g sr _ _ _) rfl (fun h=>HP.out h.1)
 | true=>
  have hx:Hid (RightP bx xn xd):=hr.1 rfl;clear hr;obtain ⟨Y0,Y1,Y2⟩:=Y.cells
  go_wp2_with fail
  clear Y0 Y1 Y2;refine (refRight_rat Y.rn Y.rd).mono ?_;rintro e wb ⟨⟨r,rfl,hr⟩,kb⟩;replace X:=X.below kb;replace Y:=Y.below kb;replace R:=R.below kb;replace g:=g.trans (kb.mono g.size);clear kb
  cases r with
  | false=>
   have HP:Hid (¬ RightP cy yn yd):=fun h=>by have:=hr.2 h;cases this
   clear hr;have q0:=R.box.c0;have q1:=R.box.c1;have q2:=R.box.c2;have p0:=R.box.f0;have p1:=R.box.f1;have p2:=R.box.f2;go_wp2
   have hR3:=R.box.set (.bool false) (.slice none 0 0) (.slice none 0 0);have r0:=hR3.c0;have r1:=hR3.c1;have r2:=hR3.c2;refine bodyPost_ret (v:=.tuple #[.agg #[.bool false,.slice none 0 0,.slice none 0 0],.int .i64 22]) (by simp [results,Tryz.results38,go_sem,r0,r1,r2]) rfl ?_;exact res_small (Below.set3 g sr _ _ _) rfl (fun h=>HP.out h.2)
  | true=>
   have hy:Hid (RightP cy yn yd):=hr.1 rfl;clear hr;have l1:=hx.out.1;have l2:=hx.out.2.1;have l3:=hy.out.1;have l4:=hy.out.2.1;have HP:Hid (RightP bx xn xd∧RightP cy yn yd):=⟨hx.out,hy.out⟩;by_cases hx0:0<xn.length
   · have hxb:((xn.length:Int)==0)=false:=by rw [beq_eq_false_iff_ne];omega
     have HX0:Hid (0<val xn):=by
      have h5:=can_low HP.out.1.2.2.1 hx0;have h6:=pw_pos (xn.length - 1);unfold Hid;omega
     have HD1:Hid (0<val yd*val xn):=Int.mul_pos (right_pos HP.out.2).1 HX0.out;obtain ⟨X0,X1,X2⟩:=X.cells;obtain ⟨Y0,Y1,Y2⟩:=Y.cells
     go_wp2_with fail
     clear X0 X1 X2 Y0 Y1 Y2;refine (refDiv_nz Y.rn Y.rd X.rn X.rd hx0).mono ?_;intro e w1 hm;obtain ⟨k2,⟨rfl,hbig⟩ | ⟨bq,nq,dq,xq,yq,uq,tq,rfl,oq,qq,Pq,hq⟩⟩:=gives_or hm ⟨HP.out.2,HP.out.1⟩
     · replace X:=X.below k2
       replace Y:=Y.below k2;replace R:=R.below k2;replace g:=g.trans (k2.mono g.size);have HB:Hid (ResBig (sg cy (val yn)*sg bx (val xd)) (val yd*val xn) (sg bx (val xn)) (val xd) (sg cy (val yn)) (val yd)):=Or.inl hbig;clear hbig hm;have kz3:=below_alloc w1 (.cells #[.bool false,.slice none 0 0,.slice none 0 0] 24);replace X:=X.below kz3;replace Y:=Y.below kz3;replace R:=R.below kz3;replace g:=g.trans (kz3.mono g.size);clear kz3;have q0:=R.box.c0;have q1:=R.box.c1;have q2:=R.box.c2;have p0:=R.box.f0;have p1:=R.box.f1;have p2:=R.box.f2;go_wp2
       have hR3:=R.box.set (.bool false) (.slice none 0 0) (.slice none 0 0);have r0:=hR3.c0;have r1:=hR3.c1;have r2:=hR3.c2;refine bodyPost_ret (v:=.tuple #[.agg #[.bool false,.slice none 0 0,.slice none 0 0],.int .i64 8]) (by simp [results,Tryz.results38,go_sem,r0,r1,r2]) rfl ?_;exact res_big (Below.set3 g sr _ _ _) rfl HP.out hx0 HB.out
     · replace X:=X.below k2
       replace Y:=Y.below k2;replace R:=R.below k2;replace g:=g.trans (k2.mono g.size);clear hm;have HQ:Hid (RightP bq nq dq∧sg bq (val nq)/val dq=(sg cy (val yn)*sg bx (val xd))/(val yd*val xn)∧¬ Big (sg cy (val yn)*sg bx (val xd)) (val yd*val xn)):=⟨Pq,floor_cross HD1.out (right_pos Pq).1 hq,not_big Pq hq HD1.out⟩;clear Pq hq;have neX:w.heap.size≠w1.heap.size:=Nat.ne_of_lt X.lt;have neY:w.heap.size+1≠w1.heap.size:=Nat.ne_of_lt Y.lt;have neR:w.heap.size+1+1≠w1.heap.size:=Nat.ne_of_lt R.lt;have leQ:w.heap.size≤w1.heap.size:=g.size;have ka4:=below_alloc w1 (.cells #[.bool bq,.slice xq nq.length yq,.slice uq dq.length tq] 24);have Q:=nvar_new (b:=bq) oq.rd qq.rd;replace X:=X.below ka4;replace Y:=Y.below ka4;replace R:=R.below ka4;replace g:=g.trans (ka4.mono g.size);clear ka4;obtain ⟨Q0,Q1,Q2⟩:=Q.cells
       go_wp2_with fail
       clear Q0 Q1 Q2;generalize hA:(w1.alloc (.cells #[.bool bq,.slice xq nq.length yq,.slice uq dq.length tq] 24))=v5 at *;clear hA;refine (refFloor_rat Q.rn Q.rd).mono ?_;intro e w6 hm;obtain ⟨k7,⟨rfl,hbig⟩ | ⟨bf,nf,df,xf,yf,uf,tf,rfl,of,qf,Pf,hf⟩⟩:=gives_or hm HQ.out.1
       · replace X:=X.below k7
         replace Y:=Y.below k7;replace Q:=Q.below k7;replace R:=R.below k7;replace g:=g.trans (k7.mono g.size);have HB:Hid (ResBig (sg cy (val yn)*sg bx (val xd)) (val yd*val xn) (sg bx (val xn)) (val xd) (sg cy (val yn)) (val yd)):=Or.inr (Or.inl (by rw [HQ.out.2.1] at hbig;exact hbig));clear hbig hm;have z0:=Q.box.c0;have z1:=Q.box.c1;have z2:=Q.box.c2;have y0:=Q.box.f0;have y1:=Q.box.f1;have y2:=Q.box.f2;replace R:=R.by' Q neR (.bool false) (.slice none 0 0) (.slice none 0 0);replace g:=Below.set3 g leQ (.bool false) (.slice none 0 0) (.slice none 0 0);have q0:=R.box.c0;have q1:=R.box.c1;have q2:=R.box.c2;have p0:=R.box.f0;have p1:=R.box.f1;have p2:=R.box.f2;go_wp2
         have hR3:=R.box.set (.bool false) (.slice none 0 0) (.slice none 0 0);have r0:=hR3.c0;have r1:=hR3.c1;have r2:=hR3.c2;refine bodyPost_ret (v:=.tuple #[.agg #[.bool false,.slice none 0 0,.slice none 0 0],.int .i64 8]) (by simp [results,Tryz.results38,go_sem,r0,r1,r2]) rfl ?_;exact res_big (Below.set3 g sr _ _ _) rfl HP.out hx0 HB.out
       · replace X:=X.below k7
         replace Y:=Y.below k7;replace Q:=Q.below k7;replace R:=R.below k7;replace g:=g.trans (k7.mono g.size);clear hm;rw [HQ.out.2.1] at hf;have HF:Hid (RightP bf nf df∧df=[1]∧sg bf (val nf)=(sg cy (val yn)*sg bx (val xd))/(val yd*val xn)∧¬ Big ((sg cy (val yn)*sg bx (val xd))/(val yd*val xn)) 1):=by
          have h5:=not_big Pf hf (by decide);rw [Int.mul_one] at hf;have e2:=whole_den Pf.2.2.1 Pf.2.2.2.1 Pf.2.2.2.2.2.1 Pf.2.2.2.2.2.2 hf;refine ⟨Pf,e2,?_,h5⟩;rw [hf,e2,one_val,Int.mul_one]
         clear Pf hf;have z0:=Q.box.c0;have z1:=Q.box.c1;have z2:=Q.box.c2;have y0:=Q.box.f0;have y1:=Q.box.f1;have y2:=Q.box.f2;replace X:=X.by' Q neX (.bool bf) (.slice xf nf.length yf) (.slice uf df.length tf);replace Y:=Y.by' Q neY (.bool bf) (.slice xf nf.length yf) (.slice uf df.length tf);replace R:=R.by' Q neR (.bool bf) (.slice xf nf.length yf) (.slice uf df.length tf);replace Q:=Q.put (c:=bf) of.rd qf.rd;replace g:=Below.set3 g leQ (.bool bf) (.slice xf nf.length yf) (.slice uf df.length tf);obtain ⟨X0,X1,X2⟩:=X.cells;obtain ⟨Q0,Q1,Q2⟩:=Q.cells
         go_wp2_with fail
         clear X0 X1 X2 Q0 Q1 Q2;clear z0 z1 z2 y0 y1 y2;generalize hA:(((w6.setCell ⟨w1.heap.size,0,none⟩ (.bool bf)).setCell ⟨w1.heap.size,1,none⟩ (.slice xf nf.length yf)).setCell ⟨w1.heap.size,2,none⟩ (.slice uf df.length tf))=v8 at *;clear hA;have hf1:Hid (RightP bf nf df):=HF.out.1;refine (refTimes_rat X.rn X.rd Q.rn Q.rd hx hf1).mono ?_;intro e w9 hm;obtain ⟨k10,⟨rfl,hbig⟩ | ⟨bt,nt,dt,xt,yt,ut,tt,rfl,ot,qt,Pt,ht⟩⟩:=gives_or (hm.gives True.intro) True.intro
         · replace X:=X.below k10
           replace Y:=Y.below k10;replace Q:=Q.below k10;replace R:=R.below k10;replace g:=g.trans (k10.mono g.size);have HB:Hid (ResBig (sg cy (val yn)*sg bx (val xd)) (val yd*val xn) (sg bx (val xn)) (val xd) (sg cy (val yn)) (val yd)):=Or.inr (Or.inr (Or.inl (by rw [HF.out.2.1,one_val,Int.mul_one,HF.out.2.2.1] at hbig;exact hbig)));clear hbig hm;have kz11:=below_alloc w9 (.cells #[.bool false,.slice none 0 0,.slice none 0 0] 24);replace X:=X.below kz11;replace Y:=Y.below kz11;replace Q:=Q.below kz11;replace R:=R.below kz11;replace g:=g.trans (kz11.mono g.size);clear kz11;have q0:=R.box.c0;have q1:=R.box.c1;have q2:=R.box.c2;have p0:=R.box.f0;have p1:=R.box.f1;have p2:=R.box.f2;go_wp2
           have hR3:=R.box.set (.bool false) (.slice none 0 0) (.slice none 0 0);have r0:=hR3.c0;have r1:=hR3.c1;have r2:=hR3.c2;refine bodyPost_ret (v:=.tuple #[.agg #[.bool false,.slice none 0 0,.slice none 0 0],.int .i64 8]) (by simp [results,Tryz.results38,go_sem,r0,r1,r2]) rfl ?_;exact res_big (Below.set3 g sr _ _ _) rfl HP.out hx0 HB.out
         · replace X:=X.below k10
           replace Y:=Y.below k10;replace Q:=Q.below k10;replace R:=R.below k10;replace g:=g.trans (k10.mono g.size);clear hm;have neV:w9.heap.size≠w.heap.size+1+1:=Nat.ne_of_gt R.lt;have HT:Hid (RightP bt nt dt∧sg bt (val nt)*val xd=sg bx (val xn)*((sg cy (val yn)*sg bx (val xd))/(val yd*val xn))*val dt∧¬ Big (sg bx (val xn)*((sg cy (val yn)*sg bx (val xd))/(val yd*val xn))) (val xd)):=by
            rw [HF.out.2.1,one_val,Int.mul_one,HF.out.2.2.1] at ht;exact ⟨Pt,ht,not_big Pt ht (right_pos HP.out.1).1⟩
           clear Pt ht;have ka12:=below_alloc w9 (.cells #[.bool bt,.slice xt nt.length yt,.slice ut dt.length tt] 24);have V:=nvar_new (b:=bt) ot.rd qt.rd;replace X:=X.below ka12;replace Y:=Y.below ka12;replace Q:=Q.below ka12;replace R:=R.below ka12;replace g:=g.trans (ka12.mono g.size);clear ka12;go_wp2
           generalize hA:(w9.alloc (.cells #[.bool bt,.slice xt nt.length yt,.slice ut dt.length tt] 24))=v13 at *;clear hA;have hcells:∀ {w':World},Below v13.heap.size v13 w'→w'.cell? ⟨(w.heap.size+1),0,none⟩=some (.bool cy)∧w'.cell? ⟨(w.heap.size+1),1,none⟩=some (.slice a3 yn.length c3)∧w'.cell? ⟨(w.heap.size+1),2,none⟩=some (.slice a4 yd.length c4)∧w'.cell? ⟨w9.heap.size,0,none⟩=some (.bool bt)∧w'.cell? ⟨w9.heap.size,1,none⟩=some (.slice xt nt.length yt)∧w'.cell? ⟨w9.heap.size,2,none⟩=some (.slice ut dt.length tt):=fun hb=>⟨(Y.below hb).k0,(Y.below hb).k1,(Y.below hb).k2,(V.below hb).k0,(V.below hb).k1,(V.below hb).k2⟩;obtain ⟨s0,s1,s2,s3,s4,s5⟩:=hcells (Below.refl _ _);have m1:nt.length≤10000:=Nat.le_trans HT.out.1.1 (by decide);have m2:dt.length≤10000:=Nat.le_trans HT.out.1.2.1 (by decide);have M:Hid (can nt∧can dt):=⟨HT.out.1.2.2.1,HT.out.1.2.2.2.1⟩;have HN:=right_with (!bt) HT.out.1;have HC:Hid ((sg cy (val yn)*val dt+sg (!bt) (val nt)*val yd)*(val yd*val xd)=(sg cy (val yn)*val xd + -(sg bx (val xn)*((sg cy (val yn)*sg bx (val xd))/(val yd*val xn)))*val yd)*(val yd*val dt)):=by
            unfold Hid;rw [sg_not];exact res_cross HT.out.2.1
           have HDt:Hid (0<val yd*val dt):=Int.mul_pos (right_pos HP.out.2).1 (right_pos HT.out.1).1;have HDx:Hid (0<val yd*val xd):=Int.mul_pos (right_pos HP.out.2).1 (right_pos HP.out.1).1;have nv:w9.heap.size≠w.heap.size+1+1:=by have h5:=neV;exact h5
           go_region_held3 (fun w'=>w'.cell? ⟨(w.heap.size+1),0,none⟩=some (.bool cy)∧w'.cell? ⟨(w.heap.size+1),1,none⟩=some (.slice a3 yn.length c3)∧w'.cell? ⟨(w.heap.size+1),2,none⟩=some (.slice a4 yd.length c4)∧w'.cell? ⟨w9.heap.size,0,none⟩=some (.bool bt)∧w'.cell? ⟨w9.heap.size,1,none⟩=some (.slice xt nt.length yt)∧w'.cell? ⟨w9.heap.size,2,none⟩=some (.slice ut dt.length tt))
            (first | (go_keep;done) | exact tw1 | exact tw2 | exact tws)
            (first
             | (have j:=tw1;go_at_call 34;refine (refTwo_rat (Y.below t1).rn (Y.below t1).rd on.rd od.rd hy HN.1).mono ?_;intro e u2 hm6;rw [HN.2] at hm6;obtain ⟨bm6,b6,x5,n5,y5,x6,n6,y6,err,rfl,hform⟩:=(RMakes.from' t1 hm6).form;have tw2:=hcells bm6;have YF:=Y.below bm6;have VF:=V.below bm6;have RF:=R.below bm6;have tws:=And.intro (YF.box.other ny (.bool b6) (.slice x5 n5 y5) (.slice x6 n6 y6)).c0 (And.intro (YF.box.other ny (.bool b6) (.slice x5 n5 y5) (.slice x6 n6 y6)).c1 (And.intro (YF.box.other ny (.bool b6) (.slice x5 n5 y5) (.slice x6 n6 y6)).c2 (And.intro (VF.box.other nv (.bool b6) (.slice x5 n5 y5) (.slice x6 n6 y6)).c0 (And.intro (VF.box.other nv (.bool b6) (.slice x5 n5 y5) (.slice x6 n6 y6)).c1 (VF.box.other nv (.bool b6) (.slice x5 n5 y5) (.slice x6 n6 y6)).c2))));have q0:=RF.box.c0;have q1:=RF.box.c1;have q2:=RF.box.c2;have p0:=RF.box.f0;have p1:=RF.box.f1;have p2:=RF.box.f2)
             | (go_at_call 62;refine (refNeg_num (w:=v13.drew) V.rn V.rd m1 m2 M).mono ?_;rintro e u1 ⟨j1,z1,y1,z2,y2,rfl,on,od⟩;have t1:Below v13.heap.size v13 u1:=below_undrew (w:=v13) (B:=v13.heap.size) j1;have tw1:=hcells t1))
           all_goals
            go_wp2
            have hR3:=RF.box.set (.bool b6) (.slice x5 n5 y5) (.slice x6 n6 y6);have r0:=hR3.c0;have r1:=hR3.c1;have r2:=hR3.c2;refine bodyPost_ret (v:=.tuple #[.agg #[.bool b6,.slice x5 n5 y5,.slice x6 n6 y6],.int .i64 err]) (by simp [results,Tryz.results38,go_sem,r0,r1,r2]) rfl ?_;obtain ⟨gb,hor⟩:=gives_or ((rform_done g sr R.lt bm6 hform).gives True.intro) True.intro;rcases hor with ⟨he,hbig⟩ | ⟨b7,ns,ds,x7,y7,x8,y8,he,on7,od7,hr,hv⟩
            · exact res_big gb he HP.out hx0 (Or.inr (Or.inr (Or.inr (big_cross HDt.out HC.out hbig))))
            · have hv2:sg b7 (val ns)*(val yd*val xd)=(sg cy (val yn)*val xd + -(sg bx (val xn)*((sg cy (val yn)*sg bx (val xd))/(val yd*val xn)))*val yd)*val ds:=by
               refine cancel HDt.out ?_;have e1:sg b7 (val ns)*(val yd*val xd)*(val yd*val dt)=sg b7 (val ns)*(val yd*val dt)*(val yd*val xd):=by ac_rfl
               have e2:(sg cy (val yn)*val xd + -(sg bx (val xn)*((sg cy (val yn)*sg bx (val xd))/(val yd*val xn)))*val yd)*val ds*(val yd*val dt)=(sg cy (val yn)*val xd + -(sg bx (val xn)*((sg cy (val yn)*sg bx (val xd))/(val yd*val xn)))*val yd)*(val yd*val dt)*val ds:=by ac_rfl
               rw [e1,hv,e2,← HC.out]
               ac_rfl
              refine ⟨gb,b7,x7,ns.length,y7,x8,ds.length,y8,0,he,Or.inr (Or.inr (Or.inr ⟨HP.out,hx0,rfl,?_,ns,ds,rfl,rfl,on7,od7,hr,hv2⟩))⟩;rintro (h | h | h | h)
              · exact HQ.out.2.2 h
              · exact HF.out.2.2.2 h
              · exact HT.out.2.2 h
              · exact not_big hr hv2 HDx.out h
   · have hxb:((xn.length:Int)==0)=true:=by rw [beq_iff_eq];omega
     have Hz:Hid (xn.length=0):=by unfold Hid;omega
     have m1:yn.length≤10000:=by omega
     have m2:yd.length≤10000:=by omega
     have M:Hid (can yn∧can yd):=⟨hy.out.2.2.1,hy.out.2.2.2.1⟩;obtain ⟨X0,X1,X2⟩:=X.cells;obtain ⟨Y0,Y1,Y2⟩:=Y.cells
     go_wp2_with fail
     clear X0 X1 X2 Y0 Y1 Y2;have gk:=g;have Rk:=R;refine (refCopied_any Y.rn Y.rd m1 m2 M).mono ?_;rintro e wz ⟨kz,x5,y5,x6,y6,rfl,on,od⟩;replace X:=X.below kz;replace Y:=Y.below kz;replace R:=R.below kz;replace g:=g.trans (kz.mono g.size);have q0:=R.box.c0;have q1:=R.box.c1;have q2:=R.box.c2;have p0:=R.box.f0;have p1:=R.box.f1;have p2:=R.box.f2;go_wp2
     have hR3:=R.box.set (.bool cy) (.slice x5 yn.length y5) (.slice x6 yd.length y6);have r0:=hR3.c0;have r1:=hR3.c1;have r2:=hR3.c2;refine bodyPost_ret (v:=.tuple #[.agg #[.bool cy,.slice x5 yn.length y5,.slice x6 yd.length y6],.int .i64 0]) (by simp [results,Tryz.results38,go_sem,r0,r1,r2]) rfl ?_;exact ⟨Below.set3 g sr _ _ _,cy,x5,yn.length,y5,x6,yd.length,y6,0,rfl,Or.inr (Or.inl ⟨HP.out,Hz.out,rfl,rfl,rfl,rfl,(Own.set3 on Rk.lt _ _ _).mono gk.size,(Own.set3 od Rk.lt _ _ _).mono gk.size⟩)⟩
end
end Go.Proofs.YtilbfkabfgnhpaaGreat
