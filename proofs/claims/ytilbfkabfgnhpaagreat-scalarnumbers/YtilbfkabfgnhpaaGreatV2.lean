/- ScalarNumbers: the functions of one number. -/
import Derived.Test.YtilbfkabfgnhpaaGreatV1
import Derived.Test.YtilbfkabfgnhpaaGreatP8
import Derived.Test.YtilbfkabfgnhpaaGreatU2
import Derived.Test.YtilbfkabfgnhpaaGreatK8
import Derived.Test.YtilbfkabfgnhpaaGreatP9
import Derived.Test.YtilbfkabfgnhpaaGreatP7
import Derived.Test.YtilbfkabfgnhpaaGreatM3
import Derived.Test.YtilbfkabfgnhpaaGreatU1
import Derived.Test.YtilbfkabfgnhpaaGreatJ6
set_option maxRecDepth 100000
set_option maxHeartbeats 16000000
set_option linter.unusedVariables false
set_option linter.unusedSimpArgs false
namespace Go.Proofs.YtilbfkabfgnhpaaGreat
open Go.RowKit
theorem bit_nums {b h:Bool} {ns ds:List Int} (e:numT b ns ds=wholeT (bitI h)):b=false∧ns=bitL h∧ds=[1]:=by
 rw [wholeT_bit] at e;unfold numT at e;injection e with _ e1 e2 e3
 exact ⟨e1,e2,e3⟩
/-- Is a number no number of limbs? -/
theorem isZero5_dec {w:World} {p:Nat} {a1:Option Addr} {c1:Nat} {ns:List Int} (q1:w.cell? ⟨p,1,none⟩=some (.slice a1 ns.length c1)):Calls Tryz.prog 116 #[.pointer (some ⟨p,0,none⟩)] w fun e w'=>e=.returned (.bool (decide (ns=[])))∧w'=w:=by
 by_cases h:ns=[]
 · subst h
   exact isZero_bit (h:=false) q1
 · rw [decide_eq_false h]
   exact isZero5_no (List.length_pos_iff.2 h) q1
section
variable {w:World} {bx:Bool} {a1 a2:Option Addr} {c1 c2:Nat} {xn xd:List Int}
theorem mon_sign (h1:Rd w.heap.size w (.slice a1 xn.length c1) xn) (h2:Rd w.heap.size w (.slice a2 xd.length c2) xd) (hr:RightP bx xn xd) :
    Calls Tryz.prog 44 #[.agg #[.bool bx,.slice a1 xn.length c1,.slice a2 xd.length c2]] w fun e w'=>Told (WholeS (cmpI (sg bx (val xn)) 0)) w e w':=by
 have HP:Hid (RightP bx xn xd):=hr;clear hr;obtain ⟨v,hA,g,Xb,R,sz⟩:=lay2 w #[.bool bx,.slice a1 xn.length c1,.slice a2 xd.length c2] #[.bool false,.slice none 0 0,.slice none 0 0] 24 24;have HR:Hid (∀ {w':World},Below w.heap.size w w'→Rd w'.heap.size w' (.slice a1 xn.length c1) xn∧Rd w'.heap.size w' (.slice a2 xd.length c2) xd):=fun k=>⟨(h1.below k).mono k.size,(h2.below k).mono k.size⟩;clear h1 h2;obtain ⟨x0,x1,x2,-⟩:=Xb.six;go_enter Tryz.func44,Tryz.ntmps44
 go_wp2_with fail
 clear hA x0 x1 x2;refine (sign_rat (bx:=bx) (HR.out g).1 (HR.out g).2).mono ?_;rintro e w1 ⟨b1,r,rfl,HG⟩;have s1:=b1.size;have g1:Below w.heap.size w w1:=g.trans (b1.mono g.size);have X1:=Xb.below b1 (by omega);have R1:=R.below b1 (by omega);have hr:r=cmpI (sg bx (val xn)) 0:=HG.out.2 HP.out;have hr0:-1≤r∧r≤1:=by rw [hr];unfold cmpI;split <;> (try split) <;> omega
 have HE:Hid (r=cmpI (sg bx (val xn)) 0):=hr;clear hr HG
 go_wp2_with fail
 refine (ofInt_any r (by omega) (by omega) _).mono ?_;rintro e w2 ⟨b2,b,ns,ds,z1,u1,z2,u2,HW,rfl,o1,o2⟩;have s2:=b2.size;have g2:Below w.heap.size w w2:=g1.trans (b2.mono g1.size);have X2:=X1.below b2 (by omega);have R2:=R1.below b2 (by omega);have q1:=o1.rd;have q2:=o2.rd;clear o1 o2;have Q1:Hid (Rd w2.heap.size w2 (.slice z1 ns.length u1) ns):=q1;have Q2:Hid (Rd w2.heap.size w2 (.slice z2 ds.length u2) ds):=q2;clear q1 q2;obtain ⟨r0,r1,r2,f0,f1,f2⟩:=R2.six;obtain ⟨y0,y1,y2⟩:=R2.put3 (.bool b) (.slice z1 ns.length u1) (.slice z2 ds.length u2);go_wp2
 refine bodyPost_ret (v:=.tuple #[.agg #[.bool b,.slice z1 ns.length u1,.slice z2 ds.length u2],.int .i64 0]) (by simp [results,Tryz.results44,go_sem,y0,y1,y2]) rfl ?_;exact told_put (S:=WholeS (cmpI (sg bx (val xn)) 0)) (show WholeS _ b ns ds 0 from ⟨rfl,HE.out ▸ HW.out⟩) g2 Q1.out Q2.out R2 (by omega)
theorem mon_recip (h1:Rd w.heap.size w (.slice a1 xn.length c1) xn) (h2:Rd w.heap.size w (.slice a2 xd.length c2) xd) :
    Calls Tryz.prog 47 #[.agg #[.bool bx,.slice a1 xn.length c1,.slice a2 xd.length c2]] w fun e w'=>Told (QuotSpec (RightP false [1] [1]∧RightP bx xn xd) false [1] [1] bx xn xd) w e w':=by
 obtain ⟨v,hA,g,Xb,R,sz⟩:=lay2 w #[.bool bx,.slice a1 xn.length c1,.slice a2 xd.length c2] #[.bool false,.slice none 0 0,.slice none 0 0] 24 24;have HR:Hid (∀ {w':World},Below w.heap.size w w'→Rd w'.heap.size w' (.slice a1 xn.length c1) xn∧Rd w'.heap.size w' (.slice a2 xd.length c2) xd):=fun k=>⟨(h1.below k).mono k.size,(h2.below k).mono k.size⟩;clear h1 h2;obtain ⟨x0,x1,x2,-⟩:=Xb.six;go_enter Tryz.func47,Tryz.ntmps47
 go_wp2_with fail
 clear hA x0 x1 x2;have d0:Below v.heap.size v v.drew:=⟨rfl,rfl,rfl,Nat.le_refl _,fun _ _=>rfl⟩;have gd:Below w.heap.size w v.drew:=g.trans (d0.mono g.size);have Xd:=Xb.below d0 (by omega);have Rd0:=R.below d0 (by omega);have s0:=d0.size;obtain ⟨x0,x1,x2,-⟩:=Xd.six
 first | go_region_with (first | (have j:=b1;refine (div_all (bx:=b1') (cy:=bx) O1.out O2.out (HR.out g1).1 (HR.out g1).2).mono ?_;rintro e w2 ⟨b,ns,ds,err,HS,b2,z1,u1,z2,u2,rfl,q1,q2⟩;have s2:=b2.size;have g2:Below w.heap.size w w2:=g1.trans (b2.mono g1.size);have R2:=R1.below b2 (by omega);obtain ⟨r0,r1,r2,f0,f1,f2⟩:=R2.six) | (refine (ofInt_any 1 (by decide) (by decide) _).mono ?_;rintro e w1 ⟨b1,b1',n1,d1,p1,p2,p3,p4,HW,rfl,o1,o2⟩;have O1:Hid (Rd w1.heap.size w1 (.slice p1 n1.length p2) n1):=o1.rd;have O2:Hid (Rd w1.heap.size w1 (.slice p3 d1.length p4) d1):=o2.rd;clear o1 o2;have s1:=b1.size;have g1:Below w.heap.size w w1:=gd.trans (b1.mono gd.size);have X1:=Xd.below b1 (by omega);have R1:=Rd0.below b1 (by omega);obtain ⟨x0',x1',x2',-⟩:=X1.six)) | fail
 all_goals
  have Q1:Hid (Rd w2.heap.size w2 (.slice z1 ns.length u1) ns):=q1;have Q2:Hid (Rd w2.heap.size w2 (.slice z2 ds.length u2) ds):=q2;clear q1 q2;obtain ⟨e1,e2,e3⟩:=whole_oneS HW.out;have HT:Hid ((QuotSpec (RightP false [1] [1]∧RightP bx xn xd) false [1] [1] bx xn xd) b ns ds err):=by
   have h:=HS.out;rw [e1,e2,e3] at h;exact h
  clear HS HW e1 e2 e3;obtain ⟨y0,y1,y2⟩:=R2.put3 (.bool b) (.slice z1 ns.length u1) (.slice z2 ds.length u2);go_wp2
  refine bodyPost_ret (v:=.tuple #[.agg #[.bool b,.slice z1 ns.length u1,.slice z2 ds.length u2],.int .i64 err]) (by simp [results,Tryz.results47,go_sem,y0,y1,y2]) rfl ?_;exact told_put HT g2 Q1.out Q2.out R2 (by omega)
theorem mon_power0 (h1:Rd w.heap.size w (.slice a1 xn.length c1) xn) (h2:Rd w.heap.size w (.slice a2 xd.length c2) xd) (h0:xn.length=0) :
    Calls Tryz.prog 51 #[.agg #[.bool bx,.slice a1 xn.length c1,.slice a2 xd.length c2]] w fun e w'=>Told (NumS false [1] [1]) w e w':=by
 have H0:Hid (xn=[]):=List.eq_nil_of_length_eq_zero h0;clear h0;obtain ⟨v,hA,g,Xb,R,sz⟩:=lay2 w #[.bool bx,.slice a1 xn.length c1,.slice a2 xd.length c2] #[.bool false,.slice none 0 0,.slice none 0 0] 24 24;have HR:Hid (∀ {w':World},Below w.heap.size w w'→Rd w'.heap.size w' (.slice a1 xn.length c1) xn∧Rd w'.heap.size w' (.slice a2 xd.length c2) xd):=fun k=>⟨(h1.below k).mono k.size,(h2.below k).mono k.size⟩;clear h1 h2;obtain ⟨x0,x1,x2,-⟩:=Xb.six;go_enter Tryz.func51,Tryz.ntmps51
 go_wp2_with fail
 clear hA x0 x1 x2;refine (isZero5_dec (Xb.cell 1 rfl)).mono ?_;rintro e w1 ⟨rfl,hw⟩;obtain rfl:=hw.symm;clear hw;rw [decide_eq_true H0.out]
 go_wp2_with fail
 refine (ofInt_any 1 (by decide) (by decide) _).mono ?_;rintro e wa ⟨b1,b,ns,ds,z1,u1,z2,u2,HW,rfl,o1,o2⟩;have s1:=b1.size;have g1:Below w.heap.size w wa:=g.trans (b1.mono g.size);have X1:=Xb.below b1 (by omega);have R1:=R.below b1 (by omega);have q1:=o1.rd;have q2:=o2.rd;clear o1 o2;have Q1:Hid (Rd wa.heap.size wa (.slice z1 ns.length u1) ns):=q1;have Q2:Hid (Rd wa.heap.size wa (.slice z2 ds.length u2) ds):=q2;clear q1 q2;obtain ⟨r0,r1,r2,f0,f1,f2⟩:=R1.six;obtain ⟨y0,y1,y2⟩:=R1.put3 (.bool b) (.slice z1 ns.length u1) (.slice z2 ds.length u2);go_wp2
 refine bodyPost_ret (v:=.tuple #[.agg #[.bool b,.slice z1 ns.length u1,.slice z2 ds.length u2],.int .i64 0]) (by simp [results,Tryz.results51,go_sem,y0,y1,y2]) rfl ?_;exact told_put (S:=NumS false [1] [1]) (show NumS false [1] [1] b ns ds 0 from ⟨rfl,whole_oneS HW.out⟩) g1 Q1.out Q2.out R1 (by omega)
theorem mon_power1 (h1:Rd w.heap.size w (.slice a1 xn.length c1) xn) (h2:Rd w.heap.size w (.slice a2 xd.length c2) xd) (h0:0<xn.length) :
    Calls Tryz.prog 51 #[.agg #[.bool bx,.slice a1 xn.length c1,.slice a2 xd.length c2]] w fun e w'=>Told (ErrS 3) w e w':=by
 obtain ⟨v,hA,g,Xb,R,sz⟩:=lay2 w #[.bool bx,.slice a1 xn.length c1,.slice a2 xd.length c2] #[.bool false,.slice none 0 0,.slice none 0 0] 24 24;have HR:Hid (∀ {w':World},Below w.heap.size w w'→Rd w'.heap.size w' (.slice a1 xn.length c1) xn∧Rd w'.heap.size w' (.slice a2 xd.length c2) xd):=fun k=>⟨(h1.below k).mono k.size,(h2.below k).mono k.size⟩;clear h1 h2;obtain ⟨x0,x1,x2,-⟩:=Xb.six;go_enter Tryz.func51,Tryz.ntmps51
 go_wp2_with fail
 clear hA x0 x1 x2;refine (isZero5_no h0 (Xb.cell 1 rfl)).mono ?_;rintro e w1 ⟨rfl,hw⟩;obtain rfl:=hw.symm;clear hw;obtain ⟨r0,r1,r2,f0,f1,f2⟩:=R.six;obtain ⟨y0,y1,y2⟩:=R.put3 (.bool false) (.slice none 0 0) (.slice none 0 0);go_wp2
 refine bodyPost_ret (v:=.tuple #[.agg #[.bool false,.slice none 0 0,.slice none 0 0],.int .i64 3]) (by simp [results,Tryz.results51,go_sem,y0,y1,y2]) rfl ?_;exact told_err 3 (Below.set3 g (by omega) _ _ _)
theorem mon_not0 (h1:Rd w.heap.size w (.slice a1 xn.length c1) xn) (h2:Rd w.heap.size w (.slice a2 xd.length c2) xd) (h0:bitB bx xn xd=false) :
    Calls Tryz.prog 53 #[.agg #[.bool bx,.slice a1 xn.length c1,.slice a2 xd.length c2]] w fun e w'=>Told (ErrS 3) w e w':=by
 have H0:Hid (bitB bx xn xd=false):=h0;clear h0;obtain ⟨v,hA,g,Xb,R,sz⟩:=lay2 w #[.bool bx,.slice a1 xn.length c1,.slice a2 xd.length c2] #[.bool false,.slice none 0 0,.slice none 0 0] 24 24;have HR:Hid (∀ {w':World},Below w.heap.size w w'→Rd w'.heap.size w' (.slice a1 xn.length c1) xn∧Rd w'.heap.size w' (.slice a2 xd.length c2) xd):=fun k=>⟨(h1.below k).mono k.size,(h2.below k).mono k.size⟩;clear h1 h2;obtain ⟨x0,x1,x2,-⟩:=Xb.six;go_enter Tryz.func53,Tryz.ntmps53
 go_wp2_with fail
 clear hA x0 x1 x2;refine (isBit5_no (Xb.cell 0 rfl) (Xb.cell 1 rfl) (Xb.cell 2 rfl) (HR.out g).1 (HR.out g).2 H0.out).mono ?_;rintro e w1 ⟨rfl,hw⟩;obtain rfl:=hw.symm;clear hw;obtain ⟨r0,r1,r2,f0,f1,f2⟩:=R.six;obtain ⟨y0,y1,y2⟩:=R.put3 (.bool false) (.slice none 0 0) (.slice none 0 0);go_wp2
 refine bodyPost_ret (v:=.tuple #[.agg #[.bool false,.slice none 0 0,.slice none 0 0],.int .i64 3]) (by simp [results,Tryz.results53,go_sem,y0,y1,y2]) rfl ?_;exact told_err 3 (Below.set3 g (by omega) _ _ _)
theorem mon_not1 (h1:Rd w.heap.size w (.slice a1 xn.length c1) xn) (h2:Rd w.heap.size w (.slice a2 xd.length c2) xd) (hr:RightP bx xn xd) (h0:bitB bx xn xd=true) :
    Calls Tryz.prog 53 #[.agg #[.bool bx,.slice a1 xn.length c1,.slice a2 xd.length c2]] w fun e w'=>Told (NumS false (bitL (decide (xn=[]))) [1]) w e w':=by
 have H0:Hid (bitB bx xn xd=true):=h0;have HP:Hid (RightP bx xn xd):=hr;clear h0 hr;obtain ⟨v,hA,g,Xb,R,sz⟩:=lay2 w #[.bool bx,.slice a1 xn.length c1,.slice a2 xd.length c2] #[.bool false,.slice none 0 0,.slice none 0 0] 24 24;have HR:Hid (∀ {w':World},Below w.heap.size w w'→Rd w'.heap.size w' (.slice a1 xn.length c1) xn∧Rd w'.heap.size w' (.slice a2 xd.length c2) xd):=fun k=>⟨(h1.below k).mono k.size,(h2.below k).mono k.size⟩;clear h1 h2;obtain ⟨x0,x1,x2,-⟩:=Xb.six;go_enter Tryz.func53,Tryz.ntmps53
 go_wp2_with fail
 clear hA x0 x1 x2;refine (isBit5_any HP.out (Xb.cell 0 rfl) (Xb.cell 1 rfl) (Xb.cell 2 rfl) (HR.out g).1 (HR.out g).2).mono ?_;rintro e w1 ⟨rfl,hw⟩;obtain rfl:=hw.symm;clear hw;rw [H0.out]
 go_wp2_with fail
 refine (isZero5_dec (Xb.cell 1 rfl)).mono ?_;rintro e w1 ⟨rfl,hw⟩;obtain rfl:=hw.symm;clear hw
 go_wp2_with fail
 refine (truth_bit _ _).mono ?_;rintro e wa ⟨⟨b,z1,ns,u1,z2,ds,u2,rfl,o1,o2,HT⟩,b1⟩;have s1:=b1.size;have g1:Below w.heap.size w wa:=g.trans (b1.mono g.size);have X1:=Xb.below b1 (by omega);have R1:=R.below b1 (by omega);have q1:=o1.rd;have q2:=o2.rd;clear o1 o2;have Q1:Hid (Rd wa.heap.size wa (.slice z1 ns.length u1) ns):=q1;have Q2:Hid (Rd wa.heap.size wa (.slice z2 ds.length u2) ds):=q2;clear q1 q2;obtain ⟨r0,r1,r2,f0,f1,f2⟩:=R1.six;obtain ⟨y0,y1,y2⟩:=R1.put3 (.bool b) (.slice z1 ns.length u1) (.slice z2 ds.length u2);go_wp2
 refine bodyPost_ret (v:=.tuple #[.agg #[.bool b,.slice z1 ns.length u1,.slice z2 ds.length u2],.int .i64 0]) (by simp [results,Tryz.results53,go_sem,y0,y1,y2]) rfl ?_;exact told_put (S:=NumS false (bitL (decide (xn=[]))) [1]) (show NumS false (bitL (decide (xn=[]))) [1] b ns ds 0 from ⟨rfl,bit_nums HT.out⟩) g1 Q1.out Q2.out R1 (by omega)
end
theorem app0 (a b:Value):(#[a,b]++(#[]:Array Value))=#[a,b]:=by simp
theorem app1 (a b c:Value):(#[a,b]++#[c])=#[a,b,c]:=by simp
theorem app2 (a b c d:Value):(#[a,b]++#[c,d])=#[a,b,c,d]:=by simp
theorem num_inj {b c:Bool} {ns ds ms es:List Int} (e:numT b ns ds=numT c ms es):b=c∧ns=ms∧ds=es:=by
 unfold numT at e;injection e with _ e1 e2 e3
 exact ⟨e1,e2,e3⟩
section
variable {w1:World} {bt bx cy:Bool} {tn td xn xd yn yd:List Int} {S:Sp} {kf:Nat} {a5 a6:Option Addr} {c5 c6:Nat}
/-- A function without captures. -/
theorem dy_plain (h:∀ (v:World) (a1 a2 a3 a4:Option Addr) (c1 c2 c3 c4:Nat),Rd v.heap.size v (.slice a1 xn.length c1) xn→Rd v.heap.size v (.slice a2 xd.length c2) xd→Rd v.heap.size v (.slice a3 yn.length c3) yn→Rd v.heap.size v (.slice a4 yd.length c4) yd→Calls Tryz.prog kf #[.agg #[.bool bx,.slice a1 xn.length c1,.slice a2 xd.length c2],.agg #[.bool cy,.slice a3 yn.length c3,.slice a4 yd.length c4]] v fun e w'=>Told S v e w') :
    DyT kf #[] w1 a5 a6 c5 c6 bt tn td bx xn xd cy yn yd S:=by
 intro v _ a1 a2 a3 a4 c1 c2 c3 c4 _ _ h1 h2 h3 h4;rw [app0];exact h v a1 a2 a3 a4 c1 c2 c3 c4 h1 h2 h3 h4
/-- A number that is told, as it is. -/
theorem told_pick {w w':World} {p:Prop} [Decidable p] {e:Ending} (h:NumE w.heap.size 0 (fun b ns ds=>(0:Int)=0→numT b ns ds=if p then numT bx xn xd else numT cy yn yd) e w') (hb:Below w.heap.size w w'):Told (PickS p bx xn xd cy yn yd) w e w':=by
 obtain ⟨b,z1,ns,u1,z2,ds,u2,rfl,o1,o2,hT⟩:=h;refine told_of ?_ hb o1.rd o2.rd;have hT:=hT.out rfl;unfold PickS
 split
 · rename_i hp
   rw [if_pos hp] at hT;exact ⟨rfl,num_inj hT⟩
 · rename_i hp
   rw [if_neg hp] at hT;exact ⟨rfl,num_inj hT⟩
theorem dy_max (rx:RightP bx xn xd) (ry:RightP cy yn yd):DyT 92 #[] w1 a5 a6 c5 c6 bt tn td bx xn xd cy yn yd (PickS (¬ sg bx (val xn)*val yd<sg cy (val yn)*val xd) bx xn xd cy yn yd):=by
 refine dy_plain fun v a1 a2 a3 a4 c1 c2 c3 c4 h1 h2 h3 h4 => ?_;refine (greater5_any rx ry h1 h2 h3 h4).mono ?_;rintro e w' ⟨h,hb⟩;refine told_pick ?_ hb;obtain ⟨b,z1,ns,u1,z2,ds,u2,rfl,o1,o2,hT⟩:=h;refine ⟨b,z1,ns,u1,z2,ds,u2,rfl,o1,o2,fun _ => ?_⟩;have h:=hT.out rfl;by_cases hc:sg bx (val xn)*val yd<sg cy (val yn)*val xd
 · rw [if_neg (fun k=>k hc),h]
   show (if decide (sg bx (val xn)*val yd<sg cy (val yn)*val xd)=true then _ else _)=_;rw [if_pos (decide_eq_true hc)]
 · rw [if_pos hc,h]
   show (if decide (sg bx (val xn)*val yd<sg cy (val yn)*val xd)=true then _ else _)=_;rw [if_neg (fun k=>hc (of_decide_eq_true k))]
theorem dy_min (rx:RightP bx xn xd) (ry:RightP cy yn yd):DyT 93 #[] w1 a5 a6 c5 c6 bt tn td bx xn xd cy yn yd (PickS (¬ sg cy (val yn)*val xd<sg bx (val xn)*val yd) bx xn xd cy yn yd):=by
 refine dy_plain fun v a1 a2 a3 a4 c1 c2 c3 c4 h1 h2 h3 h4 => ?_;refine (lesser5_any rx ry h1 h2 h3 h4).mono ?_;rintro e w' ⟨h,hb⟩;refine told_pick ?_ hb;obtain ⟨b,z1,ns,u1,z2,ds,u2,rfl,o1,o2,hT⟩:=h;refine ⟨b,z1,ns,u1,z2,ds,u2,rfl,o1,o2,fun _ => ?_⟩;have h:=hT.out rfl;by_cases hc:sg cy (val yn)*val xd<sg bx (val xn)*val yd
 · rw [if_neg (fun k=>k hc),h]
   show (if decide (sg cy (val yn)*val xd<sg bx (val xn)*val yd)=true then _ else _)=_;rw [if_pos (decide_eq_true hc)]
 · rw [if_pos hc,h]
   show (if decide (sg cy (val yn)*val xd<sg bx (val xn)*val yd)=true then _ else _)=_;rw [if_neg (fun k=>hc (of_decide_eq_true k))]
theorem dy_cmp {j b:Nat} {Rb:Int→Bool} (HO:HoldK kf Rb) (hT:OfTwo b bt a5 tn.length c5 a6 td.length c6 w1) (hf:w1.cell? ⟨b+j,0,none⟩=some (.func (.func kf) #[] #[])) :
    DyT 83 #[.pointer (some ⟨b+j,0,none⟩),.pointer (some ⟨b,0,none⟩)] w1 a5 a6 c5 c6 bt tn td bx xn xd cy yn yd (CmpS Rb (TolR bt tn td bx xn xd cy yn yd)):=by
 intro v hv a1 a2 a3 a4 c1 c2 c3 c4 h1 h2 h3 h4 h5 h6;obtain ⟨t0,t1,t2,_⟩:=hT.cells;rw [app2];refine (cmpT HO ((hv.cell (p:=⟨b+j,0,none⟩) (lt_of_cellT hf)).trans hf) ((hv.cell (p:=⟨b,0,none⟩) (lt_of_cellT t0)).trans t0) ((hv.cell (p:=⟨b,1,none⟩) (lt_of_cellT t1)).trans t1) ((hv.cell (p:=⟨b,2,none⟩) (lt_of_cellT t2)).trans t2) h1 h2 h3 h4 h5 h6).mono ?_;rintro e w' ⟨⟨r,b',z1,ns,u1,z2,ds,u2,rfl,o1,o2,hn,hr⟩,hb⟩;exact told_of (⟨rfl,r,hr.out,bit_nums hn.out⟩:CmpS Rb (TolR bt tn td bx xn xd cy yn yd) b' ns ds 0) hb o1.rd o2.rd
theorem dy_log {j b:Nat} {op:Bool→Bool→Bool} (rx:RightP bx xn xd) (ry:RightP cy yn yd) (HO:HoldB kf op) (hf:w1.cell? ⟨b+j,0,none⟩=some (.func (.func kf) #[] #[])) :
    DyT 152 #[.pointer (some ⟨b+j,0,none⟩)] w1 a5 a6 c5 c6 bt tn td bx xn xd cy yn yd (LogS op bx xn xd cy yn yd):=by
 intro v hv a1 a2 a3 a4 c1 c2 c3 c4 _ _ h1 h2 h3 h4;rw [app1];by_cases hB:(bitB bx xn xd && bitB cy yn yd)=true
 · have hx:=bit_is rx (Bool.and_eq_true _ _ ▸ hB).1
   have hy:=bit_is ry (Bool.and_eq_true _ _ ▸ hB).2;have hS:LogS op bx xn xd cy yn yd=NumS false (bitL (op (decide (xn≠[])) (decide (yn≠[])))) [1]:=by rw [LogS,if_pos hB]
   rw [hS];obtain ⟨h,hh⟩:∃ h,decide (xn≠[])=h:=⟨_,rfl⟩;obtain ⟨k,hk⟩:∃ k,decide (yn≠[])=k:=⟨_,rfl⟩;rw [hh] at hx ⊢;rw [hk] at hy ⊢;obtain ⟨rfl,rfl,rfl⟩:=hx;obtain ⟨rfl,rfl,rfl⟩:=hy;refine (log_bits HO ((hv.cell (p:=⟨b+j,0,none⟩) (lt_of_cellT hf)).trans hf) h1 h2 h3 h4).mono ?_;rintro e w' ⟨⟨b',z1,ns,u1,z2,ds,u2,rfl,o1,o2,hn⟩,hb⟩;exact told_of (⟨rfl,bit_nums hn.out⟩:NumS false (bitL (op h k)) [1] b' ns ds 0) hb o1.rd o2.rd
 · have hS:LogS op bx xn xd cy yn yd=ErrS 3:=by rw [LogS,if_neg hB]
   rw [hS];have hn:(bitB bx xn xd && bitB cy yn yd)=false:=Bool.eq_false_iff.2 hB;refine (logical5_noS (B:=bitB bx xn xd) (C:=bitB cy yn yd) (fun u p q hb hp hq=>⟨isBit5_any rx hp.1 hp.2.1 hp.2.2 ((h1.below hb).mono hb.size) ((h2.below hb).mono hb.size),isBit5_any ry hq.1 hq.2.1 hq.2.2 ((h3.below hb).mono hb.size) ((h4.below hb).mono hb.size)⟩) hn).mono ?_;rintro e w' ⟨rfl,hb⟩;exact told_err 3 hb
end
section
variable {w:World} {bx bt cy:Bool} {a1 a2 a3 a4 a5 a6:Option Addr} {c1 c2 c3 c4 n5 c5 n6 c6:Nat} {io pp g:Int} {xn xd yn yd tn td:List Int}
theorem pone_all (hg:g=43∨g=45∨g=215∨g=247∨g=8968∨g=8970∨g=124∨g=42∨g=33∨g=126) (h1:Rd w.heap.size w (.slice a1 xn.length c1) xn) (h2:Rd w.heap.size w (.slice a2 xd.length c2) xd) :
    Calls Tryz.prog 4 #[.agg #[.int .i64 io,.bool bt,.slice a5 n5 c5,.slice a6 n6 c6,.int .i64 pp],.int .i32 g,.agg #[.bool bx,.slice a1 xn.length c1,.slice a2 xd.length c2]] w fun e w'=>Told (PartS (RightP bx xn xd) (OneS g bx xn xd) (ErrS 22)) w e w':=by
 rcases hg with rfl | rfl | rfl | rfl | rfl | rfl | rfl | rfl | rfl | rfl
 · refine one_gen (kf:=42) rfl (enterK Tryz.func42 (by kernel_rfl) (by kernel_rfl)) (fun hr v a1 a2 c1 c2 h1 h2 => ?_) h1 h2
   rw [oneS_43];exact (same5_any (bx:=bx) h1 h2 hr).mono fun e w' h=>told_num h.1 h.2
 · refine one_gen (kf:=43) rfl (enterK Tryz.func43 (by kernel_rfl) (by kernel_rfl)) (fun hr v a1 a2 c1 c2 h1 h2 => ?_) h1 h2
   rw [oneS_45];exact (neg_rat (b:=bx) h1 h2).mono fun e w' h=>told_gives h
 · refine one_gen (kf:=44) rfl (enterK Tryz.func44 (by kernel_rfl) (by kernel_rfl)) (fun hr v a1 a2 c1 c2 h1 h2 => ?_) h1 h2
   rw [oneS_215];exact mon_sign h1 h2 hr
 · refine one_gen (kf:=47) rfl (enterK Tryz.func47 (by kernel_rfl) (by kernel_rfl)) (fun hr v a1 a2 c1 c2 h1 h2 => ?_) h1 h2
   rw [oneS_247];exact mon_recip h1 h2
 · refine one_gen (kf:=48) rfl (enterK Tryz.func48 (by kernel_rfl) (by kernel_rfl)) (fun hr v a1 a2 c1 c2 h1 h2 => ?_) h1 h2
   rw [oneS_8968];exact (ceil_rat (b:=bx) h1 h2).mono fun e w' h=>told_gives h
 · refine one_gen (kf:=49) rfl (enterK Tryz.func49 (by kernel_rfl) (by kernel_rfl)) (fun hr v a1 a2 c1 c2 h1 h2 => ?_) h1 h2
   rw [oneS_8970];exact (floor_rat (bx:=bx) h1 h2).mono fun e w' h=>told_gives h
 · refine one_gen (kf:=50) rfl (enterK Tryz.func50 (by kernel_rfl) (by kernel_rfl)) (fun hr v a1 a2 c1 c2 h1 h2 => ?_) h1 h2
   rw [oneS_124];exact (abs_rat (b:=bx) h1 h2).mono fun e w' h=>told_gives h
 · refine one_gen (kf:=51) rfl (enterK Tryz.func51 (by kernel_rfl) (by kernel_rfl)) (fun hr v a1 a2 c1 c2 h1 h2 => ?_) h1 h2
   rw [oneS_42];by_cases h0:xn.length=0
   · rw [if_pos h0]
     exact mon_power0 h1 h2 h0
   · rw [if_neg h0]
     exact mon_power1 h1 h2 (by omega)
 · refine one_gen (kf:=52) rfl (enterK Tryz.func52 (by kernel_rfl) (by kernel_rfl)) (fun hr v a1 a2 c1 c2 h1 h2 => ?_) h1 h2
   rw [oneS_33];exact factorial_rat (b:=bx) h1 h2
 · refine one_gen (kf:=53) rfl (enterK Tryz.func53 (by kernel_rfl) (by kernel_rfl)) (fun hr v a1 a2 c1 c2 h1 h2 => ?_) h1 h2
   rw [oneS_126];by_cases h0:bitB bx xn xd=true
   · rw [if_pos h0]
     exact mon_not1 h1 h2 hr h0
   · rw [if_neg h0]
     exact mon_not0 h1 h2 (Bool.eq_false_iff.2 h0)
theorem ptwo_all (hg:g=43∨g=45∨g=215∨g=247∨g=8968∨g=8970∨g=124∨g=42∨g=33∨g=60∨g=8804∨g=61∨g=8805∨g=62∨g=8800∨g=8743∨g=8744∨g=9074∨g=9073) (h1:Rd w.heap.size w (.slice a5 tn.length c5) tn) (h2:Rd w.heap.size w (.slice a6 td.length c6) td) (h3:Rd w.heap.size w (.slice a1 xn.length c1) xn) (h4:Rd w.heap.size w (.slice a2 xd.length c2) xd) (h5:Rd w.heap.size w (.slice a3 yn.length c3) yn) (h6:Rd w.heap.size w (.slice a4 yd.length c4) yd) :
    Calls Tryz.prog 8 #[.agg #[.int .i64 io,.bool bt,.slice a5 tn.length c5,.slice a6 td.length c6,.int .i64 pp],.int .i32 g,.agg #[.bool bx,.slice a1 xn.length c1,.slice a2 xd.length c2],.agg #[.bool cy,.slice a3 yn.length c3,.slice a4 yd.length c4]] w fun e w'=>Told (PartS (RightP bt tn td∧RightP bx xn xd∧RightP cy yn yd) (TwoS g bt tn td bx xn xd cy yn yd) (ErrS 22)) w e w':=by
 rcases hg with rfl | rfl | rfl | rfl | rfl | rfl | rfl | rfl | rfl | rfl | rfl | rfl | rfl | rfl | rfl | rfl | rfl | rfl | rfl
 · rw [twoS_43]
   exact two_all (kf:=86) (caps:=fun b=>#[]) (fun _=>rfl) (enterK Tryz.func86 (by kernel_rfl) (by kernel_rfl)) (fun hp b w1 hT=>dy_plain fun v a1 a2 a3 a4 c1 c2 c3 c4 h1 h2 h3 h4=>(plus_two (bx:=bx) (cy:=cy) h1 h2 h3 h4).mono fun e w' h=>told_gives h) h1 h2 h3 h4 h5 h6
 · rw [twoS_45]
   exact two_all (kf:=88) (caps:=fun b=>#[]) (fun _=>rfl) (enterK Tryz.func88 (by kernel_rfl) (by kernel_rfl)) (fun hp b w1 hT=>dy_plain fun v a1 a2 a3 a4 c1 c2 c3 c4 h1 h2 h3 h4=>(sub_rat (bx:=bx) (cy:=cy) h1 h2 h3 h4 (Nat.le_refl _)).mono fun e w' h=>told_gives h) h1 h2 h3 h4 h5 h6
 · rw [twoS_215]
   exact two_all (kf:=89) (caps:=fun b=>#[]) (fun _=>rfl) (enterK Tryz.func89 (by kernel_rfl) (by kernel_rfl)) (fun hp b w1 hT=>dy_plain fun v a1 a2 a3 a4 c1 c2 c3 c4 h1 h2 h3 h4=>(times_two (bx:=bx) (cy:=cy) h1 h2 h3 h4).mono fun e w' h=>told_gives h) h1 h2 h3 h4 h5 h6
 · rw [twoS_247]
   exact two_all (kf:=91) (caps:=fun b=>#[]) (fun _=>rfl) (enterK Tryz.func91 (by kernel_rfl) (by kernel_rfl)) (fun hp b w1 hT=>dy_plain fun v a1 a2 a3 a4 c1 c2 c3 c4 h1 h2 h3 h4=>div_all (bx:=bx) (cy:=cy) h1 h2 h3 h4) h1 h2 h3 h4 h5 h6
 · rw [twoS_8968]
   exact two_all (kf:=92) (caps:=fun b=>#[]) (fun _=>rfl) (enterK Tryz.func92 (by kernel_rfl) (by kernel_rfl)) (fun hp b w1 hT=>dy_max hp.2.1 hp.2.2) h1 h2 h3 h4 h5 h6
 · rw [twoS_8970]
   exact two_all (kf:=93) (caps:=fun b=>#[]) (fun _=>rfl) (enterK Tryz.func93 (by kernel_rfl) (by kernel_rfl)) (fun hp b w1 hT=>dy_min hp.2.1 hp.2.2) h1 h2 h3 h4 h5 h6
 · rw [twoS_124]
   exact two_all (kf:=94) (caps:=fun b=>#[]) (fun _=>rfl) (enterK Tryz.func94 (by kernel_rfl) (by kernel_rfl)) (fun hp b w1 hT=>dy_plain fun v a1 a2 a3 a4 c1 c2 c3 c4 h1 h2 h3 h4=>(residue_rat (bx:=bx) (cy:=cy) h1 h2 h3 h4).mono fun e w' h=>h.spec) h1 h2 h3 h4 h5 h6
 · rw [twoS_42]
   exact two_all (kf:=95) (caps:=fun b=>#[]) (fun _=>rfl) (enterK Tryz.func95 (by kernel_rfl) (by kernel_rfl)) (fun hp b w1 hT=>dy_plain fun v a1 a2 a3 a4 c1 c2 c3 c4 h1 h2 h3 h4=>(power_rat (bx:=bx) (cy:=cy) h1 h2 h3 h4).mono fun e w' h=>h.spec) h1 h2 h3 h4 h5 h6
 · rw [twoS_33]
   exact two_all (kf:=96) (caps:=fun b=>#[]) (fun _=>rfl) (enterK Tryz.func96 (by kernel_rfl) (by kernel_rfl)) (fun hp b w1 hT=>dy_plain fun v a1 a2 a3 a4 c1 c2 c3 c4 h1 h2 h3 h4=>binomial_rat (bx:=bx) (cy:=cy) h1 h2 h3 h4) h1 h2 h3 h4 h5 h6
 · rw [twoS_60]
   exact two_all (kf:=83) (caps:=fun b=>#[.pointer (some ⟨b+2,0,none⟩),.pointer (some ⟨b,0,none⟩)]) (fun _=>rfl) (enterK Tryz.func83 (by kernel_rfl) (by kernel_rfl)) (fun hp b w1 hT=>dy_cmp (j:=2) holdK_4 hT hT.cells.2.2.2.1) h1 h2 h3 h4 h5 h6
 · rw [twoS_8804]
   exact two_all (kf:=83) (caps:=fun b=>#[.pointer (some ⟨b+3,0,none⟩),.pointer (some ⟨b,0,none⟩)]) (fun _=>rfl) (enterK Tryz.func83 (by kernel_rfl) (by kernel_rfl)) (fun hp b w1 hT=>dy_cmp (j:=3) holdK_5 hT hT.cells.2.2.2.2.1) h1 h2 h3 h4 h5 h6
 · rw [twoS_61]
   exact two_all (kf:=83) (caps:=fun b=>#[.pointer (some ⟨b+4,0,none⟩),.pointer (some ⟨b,0,none⟩)]) (fun _=>rfl) (enterK Tryz.func83 (by kernel_rfl) (by kernel_rfl)) (fun hp b w1 hT=>dy_cmp (j:=4) holdK_6 hT hT.cells.2.2.2.2.2.1) h1 h2 h3 h4 h5 h6
 · rw [twoS_8805]
   exact two_all (kf:=83) (caps:=fun b=>#[.pointer (some ⟨b+5,0,none⟩),.pointer (some ⟨b,0,none⟩)]) (fun _=>rfl) (enterK Tryz.func83 (by kernel_rfl) (by kernel_rfl)) (fun hp b w1 hT=>dy_cmp (j:=5) holdK_7 hT hT.cells.2.2.2.2.2.2.1) h1 h2 h3 h4 h5 h6
 · rw [twoS_62]
   exact two_all (kf:=83) (caps:=fun b=>#[.pointer (some ⟨b+6,0,none⟩),.pointer (some ⟨b,0,none⟩)]) (fun _=>rfl) (enterK Tryz.func83 (by kernel_rfl) (by kernel_rfl)) (fun hp b w1 hT=>dy_cmp (j:=6) holdK_8 hT hT.cells.2.2.2.2.2.2.2.1) h1 h2 h3 h4 h5 h6
 · rw [twoS_8800]
   exact two_all (kf:=83) (caps:=fun b=>#[.pointer (some ⟨b+7,0,none⟩),.pointer (some ⟨b,0,none⟩)]) (fun _=>rfl) (enterK Tryz.func83 (by kernel_rfl) (by kernel_rfl)) (fun hp b w1 hT=>dy_cmp (j:=7) holdK_9 hT hT.cells.2.2.2.2.2.2.2.2.1) h1 h2 h3 h4 h5 h6
 · rw [twoS_8743]
   exact two_all (kf:=152) (caps:=fun b=>#[.pointer (some ⟨b+8,0,none⟩)]) (fun _=>rfl) (enterK Tryz.func152 (by kernel_rfl) (by kernel_rfl)) (fun hp b w1 hT=>dy_log (j:=8) hp.2.1 hp.2.2 holdB_10 hT.cells.2.2.2.2.2.2.2.2.2.1) h1 h2 h3 h4 h5 h6
 · rw [twoS_8744]
   exact two_all (kf:=152) (caps:=fun b=>#[.pointer (some ⟨b+9,0,none⟩)]) (fun _=>rfl) (enterK Tryz.func152 (by kernel_rfl) (by kernel_rfl)) (fun hp b w1 hT=>dy_log (j:=9) hp.2.1 hp.2.2 holdB_11 hT.cells.2.2.2.2.2.2.2.2.2.2.1) h1 h2 h3 h4 h5 h6
 · rw [twoS_9074]
   exact two_all (kf:=152) (caps:=fun b=>#[.pointer (some ⟨b+10,0,none⟩)]) (fun _=>rfl) (enterK Tryz.func152 (by kernel_rfl) (by kernel_rfl)) (fun hp b w1 hT=>dy_log (j:=10) hp.2.1 hp.2.2 holdB_12 hT.cells.2.2.2.2.2.2.2.2.2.2.2.1) h1 h2 h3 h4 h5 h6
 · rw [twoS_9073]
   exact two_all (kf:=152) (caps:=fun b=>#[.pointer (some ⟨b+11,0,none⟩)]) (fun _=>rfl) (enterK Tryz.func152 (by kernel_rfl) (by kernel_rfl)) (fun hp b w1 hT=>dy_log (j:=11) hp.2.1 hp.2.2 holdB_13 hT.cells.2.2.2.2.2.2.2.2.2.2.2.2) h1 h2 h3 h4 h5 h6
end
end Go.Proofs.YtilbfkabfgnhpaaGreat
