/- The document's numbers: one, Right, Make; the statements' helper same. -/
import Derived.Test.YtimfnalpmmkndaaGreatDoorJ6
import Derived.Test.YtimfnalpmmkndaaGreatDoorJ5
import Derived.Test.YtimfnalpmmkndaaGreatDoorJ7
set_option maxRecDepth 100000
set_option maxHeartbeats 8000000
set_option linter.unusedVariables false
set_option linter.unusedSimpArgs false
namespace Go.Proofs.YtimfnalpmmkndaaGreatDoor
open Go.RowKit
variable {w:World} {b:Bool} {ns ds:List Int} {N D:Int}
theorem refOne_any (w:World):Calls Tryz.prog 134 #[] w fun e w'=>∃ ds a c,Hid (ds=[(1:Int)])∧e=.returned (.slice a ds.length c)∧Own w.heap.size w' (.slice a ds.length c) ds∧Below w.heap.size w w':=by
 have hO:Own w.heap.size (w.alloc (.cells #[.int .u32 1] 196)) (.slice (some ⟨w.heap.size,0,none⟩) 1 1) [1]:=⟨can_one.1,World.ownsRow_lit w #[.int .u32 1] 1 (Nat.le_refl _) (by unfold maxLen;omega) rfl⟩;go_enter Tryz.func134,Tryz.ntmps134;go_wp2
 go_ret
 exact ⟨[1],some ⟨w.heap.size,0,none⟩,1,rfl,rfl,hO,below_alloc _ _⟩
theorem cmpI_zero' {a b:Int}:cmpI a b=0↔a=b:=by
 unfold cmpI
 split
 · omega
 · split <;> omega
theorem one_val':val [(1:Int)]=1:=by decide
theorem gcdV_two (x y:List Int) (hx:0≤val x):gcdV [x,y]=gI (val x) (val y):=by
 simp only [gcdV,List.foldl];rw [gI_zero_left _ hx]
theorem gI_len {g us vs:List Int} (cg:can g) (cv:can vs) (vg:val g=gI (val us) (val vs)) (hu:0≤val us) (hv:0<val vs):g.length≤vs.length:=by
 have hgp:0<val g:=by rw [vg];exact gI_pos _ _ hu hv
 obtain ⟨_,⟨k2,hk2,_⟩⟩:=gI_dvd (val us) (val vs) hu (Int.le_of_lt hv);rw [← vg] at hk2;rw [can_len_pw cg];have h5:val g≤val vs:=by
  rcases Int.lt_or_le 0 k2 with h7 | h7
  · have:=Int.mul_le_mul_of_nonneg_right (show (1:Int)≤k2 by omega) (Int.le_of_lt hgp)
    omega
  · have:k2*val g≤0:=Int.mul_nonpos_of_nonpos_of_nonneg h7 (Int.le_of_lt hgp)
    omega
 have h6:=(can_len_pw cv vs.length).1 (Nat.le_refl _);omega
theorem refRight_rat {a1 a2:Option Addr} {c1 c2:Nat} (h1:Rd w.heap.size w (.slice a1 ns.length c1) ns) (h2:Rd w.heap.size w (.slice a2 ds.length c2) ds) :
    Calls Tryz.prog 140 #[.agg #[.bool b,.slice a1 ns.length c1,.slice a2 ds.length c2]] w fun e w'=>TellsP (RightP b ns ds) e∧Below w.heap.size w w':=by
 have X:=nvar_new (b:=b) h1 h2;have g:=below_alloc w (.cells #[.bool b,.slice a1 ns.length c1,.slice a2 ds.length c2] 110);have c1i:=rightB_can h1.lim;have c2i:=rightB_can h2.lim;have n0:=(val_bound h1.lim).1;obtain ⟨x0,x1,x2⟩:=X.cells;go_enter Tryz.func140,Tryz.ntmps140
 go_wp2_with fail
 generalize hA:w.alloc (.cells #[.bool b,.slice a1 ns.length c1,.slice a2 ds.length c2] 110)=v at *;clear hA;refine (refRight_any X.rn).mono ?_;rintro e w' ⟨rfl,rfl⟩
 cases hr1:rightB ns with
 | false=>
  have HX:Hid (¬ can ns):=by intro h;rw [c1i.2 h] at hr1;cases hr1
  clear c1i c2i hr1;go_wp2
  go_ret
  exact ⟨TellsP.no (fun h=>HX.out h.2.2.1),g⟩
 | true=>
  have H1:Hid (can ns):=c1i.1 hr1;clear c1i hr1
  go_wp2_with fail
  refine (refRight_any X.rd).mono ?_;rintro e w' ⟨rfl,rfl⟩
  cases hr2:rightB ds with
  | false=>
   have HX:Hid (¬ can ds):=by intro h;rw [c2i.2 h] at hr2;cases hr2
   clear c2i hr2;go_wp2
   go_ret
   exact ⟨TellsP.no (fun h=>HX.out h.2.2.2.1),g⟩
  | true=>
   have H2:Hid (can ds):=c2i.1 hr2;clear c2i hr2;by_cases hd0:0<ds.length
   · have hdb:((ds.length:Int)==0)=false:=by rw [beq_eq_false_iff_ne];omega
     by_cases q1:32<ns.length
     · go_wp2
       go_ret
       exact ⟨TellsP.no (fun h=>by have:=h.1;omega),g⟩
     by_cases q2:32<ds.length
     · go_wp2
       go_ret
       exact ⟨TellsP.no (fun h=>by have:=h.2.1;omega),g⟩
     by_cases hbz:b=true∧ns.length=0
     · obtain ⟨rfl,hz⟩:=hbz
       have hz':¬ 0<ns.length:=by omega
       have HX:Hid (¬ RightP true ns ds):=fun h=>h.2.2.2.2.1 ⟨rfl,hz⟩;have hzb:((ns.length:Int)==0)=true:=by rw [hz];rfl
       clear hz;go_wp2
       go_ret
       exact ⟨TellsP.no HX.out,g⟩
     · have HB:Hid (¬ (b=true∧ns.length=0)):=hbz
       have hcs:(((ns.length:Int)==0)=true∧b=false)∨((ns.length:Int)==0)=false:=by
        cases hh:((ns.length:Int)==0) with
        | false=>exact Or.inr rfl
        | true=>
         refine Or.inl ⟨rfl,?_⟩;rw [beq_iff_eq] at hh
         cases b with
         | false=>rfl
         | true=>exact absurd ⟨rfl,by omega⟩ hbz
       clear hbz;rcases hcs with ⟨hnb,rfl⟩ | hnb
       all_goals
        have hm:=many2 X.rn X.rd (Nat.le_refl _) (Nat.le_refl _)
        go_wp2_with fail
        refine (refGcd_any (M:=32) hm (by omega) (by omega) (fun j hj=>by match j,hj with | 0,_=>exact Nat.le_of_not_lt q1 | 1,_=>exact Nat.le_of_not_lt q2)).mono ?_
        rintro e wa ⟨zs,cz,vz,hmk⟩;obtain ⟨a3,c3,rfl,o3,ka⟩:=Makes.alloc (w:=v) hmk;clear hmk hm;have HZ:Hid (val zs=gI (val ns) (val ds)):=by unfold Hid;rw [vz];exact gcdV_two ns ds n0
        clear vz;have g1:Below w.heap.size w wa:=g.trans (ka.mono g.size);have lz:zs.length≤ds.length:=gI_len cz H2.out HZ.out n0 (by have h5:=can_low H2.out hd0;have h6:=pw_pos (ds.length - 1);omega)
        go_wp2_with fail
        refine (refOne_any _).mono ?_;rintro e wb ⟨os,a4,c4,HO,rfl,o4,kb⟩;have g2:Below w.heap.size w wb:=g1.trans (kb.mono g1.size);have lo:os.length≤1:=by rw [HO.out];exact Nat.le_refl _
        go_wp2_with fail
        refine (refCompare_rd (o3.below kb (Nat.le_refl _)).rd o4.rd (Nat.le_refl _) (by clear n0;omega) (by clear n0;omega)).mono ?_;rintro e wc ⟨rfl,kc⟩;have g3:Below w.heap.size w wc:=g2.trans (kc.mono g2.size);have HV:Hid (val os=1):=by unfold Hid;rw [HO.out];exact one_val'
        rw [HV.out];by_cases hz:val zs=1
        · have HG:Hid (gI (val ns) (val ds)=1):=by unfold Hid;rw [← HZ.out];exact hz
          rw [cmpI_eq hz];clear hz;go_wp2
          go_ret
          exact ⟨TellsP.yes ⟨by omega,by omega,H1.out,H2.out,(by first | exact HB.out | (have h5:=HB.out;simpa using h5)),hd0,HG.out⟩,g3⟩
        · have HG:Hid (¬ gI (val ns) (val ds)=1):=by unfold Hid;rw [← HZ.out];exact hz
          have hcb:(cmpI (val zs) 1==0)=false:=by
           rw [beq_eq_false_iff_ne];intro h5;exact hz (cmpI_zero'.1 h5)
          clear hz;go_wp2
          go_ret
          exact ⟨TellsP.no (fun h=>HG.out h.2.2.2.2.2.2),g3⟩
   · have hdb:((ds.length:Int)==0)=true:=by rw [beq_iff_eq];omega
     go_wp2
     go_ret
     exact ⟨TellsP.no (fun h=>hd0 h.2.2.2.2.2.1),g⟩
theorem right_signed (cn:can ns) (cd:can ds) (hd:0<ds.length) (hg:gI (val ns) (val ds)=1) (hv:sg b (val ns)*D=N*val ds) (l1:¬ 32<ns.length) (l2:¬ 32<ds.length):RightP (b && decide (0<ns.length)) ns ds∧sg (b && decide (0<ns.length)) (val ns)*D=N*val ds:=by
 refine ⟨⟨by omega,by omega,cn,cd,?_,hd,hg⟩,?_⟩
 · rintro ⟨hx,hz⟩
   rw [decide_eq_false (by omega)] at hx;simp at hx
 · by_cases h0:0<ns.length
   · rw [decide_eq_true h0,Bool.and_true];exact hv
   · have hz:=(can_zero cn).1 (by omega)
     rw [hz,sg_zero] at hv;rw [hz,sg_zero];exact hv
theorem refMake_rat {a1 a2:Option Addr} {c1 c2:Nat} {xs ys:List Int} (h1:Rd w.heap.size w (.slice a1 xs.length c1) xs) (h2:Rd w.heap.size w (.slice a2 ys.length c2) ys) (n1:xs.length≤10000) (n2:ys.length≤10000) (hy:0<val ys) :
    Calls Tryz.prog 133 #[.bool b,.slice a1 xs.length c1,.slice a2 ys.length c2] w fun e w'=>RMakes w (sg b (val xs)) (val ys) e w':=by
 have cu:=tr_can h1.lim;have cv:=tr_can h2.lim;have lu:=tr_length_le xs;have lv:=tr_length_le ys;have hvl:¬ (tr ys).length=0:=by rw [can_zero cv,val_tr];omega
 have HV:Hid (val (tr xs)=val xs∧val (tr ys)=val ys∧0<val ys∧0≤val xs):=⟨val_tr xs,val_tr ys,hy,(val_bound h1.lim).1⟩;clear hy;have R:=box3_new w (.bool false) (.slice none 0 0) (.slice none 0 0) 110;have b0:=below_alloc w (.cells #[.bool false,.slice none 0 0,.slice none 0 0] 110);have s0:w.heap.size<(w.alloc (.cells #[.bool false,.slice none 0 0,.slice none 0 0] 110)).heap.size:=by simp
 replace h1:=(h1.below b0).mono b0.size;replace h2:=(h2.below b0).mono b0.size;go_enter Tryz.func133,Tryz.ntmps133
 go_wp2_with fail
 generalize hA:w.alloc (.cells #[.bool false,.slice none 0 0,.slice none 0 0] 110)=wR at *;clear hA;refine (refTrim_rd h1 (by omega)).mono ?_;rintro e wa ⟨a3,c3,rfl,o3,ba⟩
 go_wp2_with fail
 refine (refTrim_rd ((h2.below ba).mono ba.size) (by omega)).mono ?_;rintro e wb ⟨a4,c4,rfl,o4,bb⟩;have bw:Below wR.heap.size wR wb:=ba.trans (bb.mono ba.size);have o1:Own wR.heap.size wb (.slice a3 (tr xs).length c3) (tr xs):=o3.below bb (Nat.le_refl _);have o2:Own wR.heap.size wb (.slice a4 (tr ys).length c4) (tr ys):=o4.mono ba.size;clear o3 o4 h1 h2;generalize tr xs=us at *;generalize tr ys=vs at *;have hvp:0<vs.length:=by omega
 have hvb:((vs.length:Int)==0)=false:=by rw [beq_eq_false_iff_ne];omega
 clear hvl;have hm:=many2 o1.rd o2.rd (Nat.le_refl _) (Nat.le_refl _)
 go_wp2_with fail
 refine (refGcd_any (M:=10000) hm (by omega) (by omega) (fun j hj=>by match j,hj with | 0,_=>exact Nat.le_trans lu n1 | 1,_=>exact Nat.le_trans lv n2)).mono ?_
 rintro e wg ⟨g,cg,vg,hmk⟩;obtain ⟨ag,qg,rfl,og,bg⟩:=Makes.alloc (w:=wb) hmk;clear hmk hm;rw [gcdV_two us vs (by have:=HV.out;omega)] at vg;have hgp:0<val g:=by rw [vg];exact gI_pos _ _ (by have:=HV.out;omega) (by have:=HV.out;omega)
 obtain ⟨⟨k1,hk1,_⟩,⟨k2,hk2,hk20⟩⟩:=gI_dvd (val us) (val vs) (by have:=HV.out;omega) (by have:=HV.out;omega);have lg:g.length≤10000:=Nat.le_trans (gI_len cg cv vg (by have:=HV.out;omega) (by have:=HV.out;omega)) (Nat.le_trans lv n2);rw [← vg] at hk1 hk2;have HG:Hid (val g=gI (val us) (val vs)∧val us=k1*val g∧val vs=k2*val g∧0<val g):=⟨vg,hk1,hk2,hgp⟩;clear vg hk1 hk2 hk20 hgp;have bwg:Below wR.heap.size wR wg:=bw.trans (bg.mono bw.size);have o1g:=o1.below bg (Nat.le_refl _);have o2g:=o2.below bg (Nat.le_refl _)
 go_wp2_with fail
 refine (refDivMod_form o1g.rd (Nat.le_refl _) og.rd (Nat.le_refl _) (by omega) (by omega)).mono ?_;rintro e wh ⟨qs,rs,a5,c5,a6,c6,bq,rfl,oq,or,HQ0,bh⟩;have HQ:Hid (bq=true∧can qs∧val us=val qs*val g):=by
  rcases HQ0.out with ⟨h5,_⟩ | ⟨_,hb5,cq,cr,hv5,hl5⟩
  · have:=HG.out.2.2.2;omega
  · have hr0:=rest_zero _ _ _ _ k1 hv5 (val_bound cr.1).1 hl5 HG.out.2.1
    exact ⟨hb5,cq,by rw [hv5,hr0,Int.add_zero]⟩
 clear HQ0;have bwh:Below wR.heap.size wR wh:=bwg.trans (bh.mono bwg.size);have o2h:=o2g.below bh (Nat.le_refl _);have ogh:=og.below bh (Nat.le_refl _)
 go_wp2_with fail
 refine (refDivMod_form o2h.rd (Nat.le_refl _) ogh.rd (Nat.le_refl _) (by omega) (by omega)).mono ?_;rintro e wi ⟨ts,us2,a7,c7,a8,c8,bt,rfl,ot,ou,HT0,bi⟩;have HT:Hid (bt=true∧can ts∧val vs=val ts*val g):=by
  rcases HT0.out with ⟨h5,_⟩ | ⟨_,hb5,cq,cr,hv5,hl5⟩
  · have:=HG.out.2.2.2;omega
  · have hr0:=rest_zero _ _ _ _ k2 hv5 (val_bound cr.1).1 hl5 HG.out.2.2.1
    exact ⟨hb5,cq,by rw [hv5,hr0,Int.add_zero]⟩
 clear HT0;have bwi:Below wR.heap.size wR wi:=bwh.trans (bi.mono bwh.size);have oq2:Own wR.heap.size wi (.slice a5 qs.length c5) qs:=(oq.below bi (Nat.le_refl _)).mono bwg.size;have ot2:Own wR.heap.size wi (.slice a7 ts.length c7) ts:=ot.mono bwh.size;have HF:Hid (can qs∧can ts∧0<ts.length∧gI (val qs) (val ts)=1∧sg b (val qs)*val ys=sg b (val xs)*val ts):=by
  have h3:=HV.out;have cq:=HQ.out.2.1;have ct:=HT.out.2.1;have hqn:=(val_bound cq.1).1;have htn:=(val_bound ct.1).1;have hgg:=gI_rest (val us) (val vs) (val qs) (val ts) (by omega) (by omega) hqn htn (by rw [← HG.out.1];exact HQ.out.2.2) (by rw [← HG.out.1];exact HT.out.2.2);refine ⟨cq,ct,?_,hgg,?_⟩
  · by_cases h0:ts.length=0
    · have:=(can_zero ct).1 h0
      have h4:=HT.out.2.2;rw [this,Int.zero_mul] at h4;omega
    · omega
  · rw [← h3.1,← h3.2.1,HQ.out.2.2,HT.out.2.2,sg_mul]
    simp only [Int.mul_assoc,Int.mul_comm,Int.mul_left_comm]
 have hR2:=R.below bwi s0;have q0:=hR2.c0;have q1:=hR2.c1;have q2:=hR2.c2;have p0:=hR2.f0;have p1:=hR2.f1;have p2:=hR2.f2;clear HQ HT;have hcs:(32<qs.length∨(¬ 32<qs.length∧32<ts.length))∨(¬ 32<qs.length∧¬ 32<ts.length):=by omega
 rcases hcs with hbig | ⟨l1,l2⟩
 · have HB:Hid (Big (sg b (val xs)) (val ys)):=⟨b,qs,ts,HF.out.1,HF.out.2.1,HF.out.2.2.1,HF.out.2.2.2.1,HF.out.2.2.2.2,by omega⟩
   rcases hbig with hbig | ⟨hbig,hbig2⟩
   all_goals
    go_wp2
    have hR3:=hR2.set (.bool false) (.slice none 0 0) (.slice none 0 0);have r0:=hR3.c0;have r1:=hR3.c1;have r2:=hR3.c2;refine bodyPost_ret (v:=.tuple #[.agg #[.bool false,.slice none 0 0,.slice none 0 0],.int .i64 8]) (by simp [results,Tryz.results133,go_sem,r0,r1,r2]) rfl ?_;exact rmakes_none b0 s0 bwi HB.out _ _ _
 · have HR:=right_signed HF.out.1 HF.out.2.1 HF.out.2.2.1 HF.out.2.2.2.1 HF.out.2.2.2.2 l1 l2
   have HRh:Hid (RightP (b && decide (0<qs.length)) qs ts∧sg (b && decide (0<qs.length)) (val qs)*val ys=sg b (val xs)*val ts):=HR;clear HR;have hcs:(b=false)∨(b=true∧0<qs.length)∨(b=true∧¬ 0<qs.length):=by
    cases b with
    | false=>exact Or.inl rfl
    | true=>exact Or.inr (by by_cases h:0<qs.length;exact Or.inl ⟨rfl,h⟩;exact Or.inr ⟨rfl,h⟩)
   rcases hcs with rfl | ⟨rfl,h0⟩ | ⟨rfl,h0⟩
   · go_wp2
     have hR3:=hR2.set (.bool false) (.slice a5 qs.length c5) (.slice a7 ts.length c7);have r0:=hR3.c0;have r1:=hR3.c1;have r2:=hR3.c2;refine bodyPost_ret (v:=.tuple #[.agg #[.bool false,.slice a5 qs.length c5,.slice a7 ts.length c7],.int .i64 0]) (by simp [results,Tryz.results133,go_sem,r0,r1,r2]) rfl ?_;exact rmakes_done b0 s0 bwi oq2 ot2 HRh.out.1 HRh.out.2
   · have e:=HRh.out
     rw [decide_eq_true h0] at e;have HE:Hid (RightP true qs ts∧sg true (val qs)*val ys=sg true (val xs)*val ts):=e;clear e HRh;go_wp2
     have hR3:=hR2.set (.bool true) (.slice a5 qs.length c5) (.slice a7 ts.length c7);have r0:=hR3.c0;have r1:=hR3.c1;have r2:=hR3.c2;refine bodyPost_ret (v:=.tuple #[.agg #[.bool true,.slice a5 qs.length c5,.slice a7 ts.length c7],.int .i64 0]) (by simp [results,Tryz.results133,go_sem,r0,r1,r2]) rfl ?_;exact rmakes_done b0 s0 bwi oq2 ot2 HE.out.1 HE.out.2
   · have e:=HRh.out
     rw [decide_eq_false h0] at e;have HE:Hid (RightP false qs ts∧sg false (val qs)*val ys=sg true (val xs)*val ts):=e;clear e HRh;go_wp2
     have hR3:=hR2.set (.bool false) (.slice a5 qs.length c5) (.slice a7 ts.length c7);have r0:=hR3.c0;have r1:=hR3.c1;have r2:=hR3.c2;refine bodyPost_ret (v:=.tuple #[.agg #[.bool false,.slice a5 qs.length c5,.slice a7 ts.length c7],.int .i64 0]) (by simp [results,Tryz.results133,go_sem,r0,r1,r2]) rfl ?_;exact rmakes_done b0 s0 bwi oq2 ot2 HE.out.1 HE.out.2
def MakeSpec (N D:Int) (b:Bool) (ns ds:List Int) (err:Int):Prop:=
 (D=0∧err=22∧b=false∧ns=[]∧ds=[])∨(0<D∧err=8∧b=false∧ns=[]∧ds=[]∧Big N D)∨(0<D∧err=0∧RightP b ns ds∧sg b (val ns)*D=N*val ds)
theorem MakeSpec.unique {c:Bool} {ms es:List Int} {e f:Int} (h:MakeSpec N D b ns ds e) (k:MakeSpec N D c ms es f):c=b∧ms=ns∧es=ds∧f=e:=by
 rcases h with ⟨hD,rfl,rfl,rfl,rfl⟩ | ⟨hD,rfl,rfl,rfl,rfl,hb⟩ | ⟨hD,rfl,hr,hv⟩ <;> rcases k with ⟨kD,rfl,rfl,rfl,rfl⟩ | ⟨kD,rfl,rfl,rfl,rfl,kb⟩ | ⟨kD,rfl,kr,kv⟩
 · exact ⟨rfl,rfl,rfl,rfl⟩
 · omega
 · omega
 · omega
 · exact ⟨rfl,rfl,rfl,rfl⟩
 · exact absurd hb (not_big kr kv kD)
 · omega
 · exact absurd kb (not_big hr hv hD)
 · obtain ⟨rfl,rfl,rfl⟩:=right_is hr hv hD kr kv
   exact ⟨rfl,rfl,rfl,rfl⟩
def RAns (w:World) (b:Bool) (ns ds:List Int) (err:Int) (e:Ending) (w':World):Prop:=
 Below w.heap.size w w'∧∃ a1 c1 a2 c2,e=.returned (.tuple #[.agg #[.bool b,.slice a1 ns.length c1,.slice a2 ds.length c2],.int .i64 err])∧Rd w'.heap.size w' (.slice a1 ns.length c1) ns∧Rd w'.heap.size w' (.slice a2 ds.length c2) ds
theorem RMakes.spec {w':World} {e:Ending} (h:RMakes w N D e w') (hD:0<D):∃ b ns ds err,Hid (MakeSpec N D b ns ds err)∧RAns w b ns ds err e w':=by
 obtain ⟨hb,⟨rfl,hbig⟩ | ⟨b,ns,ds,a1,c1,a2,c2,rfl,on,od,hr,hv⟩⟩:=h
 · exact ⟨false,[],[],8,Or.inr (Or.inl ⟨hD,rfl,rfl,rfl,rfl,hbig⟩),hb,none,0,none,0,rfl,nil_rd _,nil_rd _⟩
 · exact ⟨b,ns,ds,0,Or.inr (Or.inr ⟨hD,rfl,hr,hv⟩),hb,a1,c1,a2,c2,rfl,on.rd,od.rd⟩
section
variable {w:World} {b:Bool} {a1 a2 a3 a4:Option Addr} {c1 c2 c3 c4:Nat} {xs ys ns ds:List Int}
end
end Go.Proofs.YtimfnalpmmkndaaGreatDoor
