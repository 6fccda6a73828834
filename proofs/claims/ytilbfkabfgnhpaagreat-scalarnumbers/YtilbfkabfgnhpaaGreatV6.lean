/- ScalarNumbers: the document's functions of two numbers. -/
import Derived.Test.YtilbfkabfgnhpaaGreatV1
import Derived.Test.YtilbfkabfgnhpaaGreatV5
import Derived.Test.YtilbfkabfgnhpaaGreatV3
import Derived.Test.YtilbfkabfgnhpaaGreatU4
import Derived.Test.YtilbfkabfgnhpaaGreatU3
import Derived.Test.YtilbfkabfgnhpaaGreatU1
import Derived.Test.YtilbfkabfgnhpaaGreatU5
import Derived.Test.YtilbfkabfgnhpaaGreatK7
set_option maxRecDepth 100000
set_option maxHeartbeats 64000000
set_option linter.unusedVariables false
set_option linter.unusedSimpArgs false
namespace Go.Proofs.YtilbfkabfgnhpaaGreat
open Go.RowKit
section
variable {w:World} {bt bx cy:Bool} {a1 a2 a3 a4 a5 a6:Option Addr} {tn td xn xd yn yd:List Int} {c1 c2 c3 c4 c5 c6:Nat} {g:Int}
theorem ddy_any (h1:Rd w.heap.size w (.slice a5 tn.length c5) tn) (h2:Rd w.heap.size w (.slice a6 td.length c6) td) (h3:Rd w.heap.size w (.slice a1 xn.length c1) xn) (h4:Rd w.heap.size w (.slice a2 xd.length c2) xd) (h5:Rd w.heap.size w (.slice a3 yn.length c3) yn) (h6:Rd w.heap.size w (.slice a4 yd.length c4) yd) :
    Calls Tryz.prog 9 #[.agg #[.bool bt,.slice a5 tn.length c5,.slice a6 td.length c6],.int .i32 g,.agg #[.bool bx,.slice a1 xn.length c1,.slice a2 xd.length c2],.agg #[.bool cy,.slice a3 yn.length c3,.slice a4 yd.length c4]] w fun e w'=>Told (PartS ((([43,45,215,247,8968,8970,124,42,33,60,8804,61,8805,62,8800,8743,8744,9074,9073]:List Int).contains g)=true) (PartS (RightP bt tn td∧RightP bx xn xd∧RightP cy yn yd) (TwoS g bt tn td bx xn xd cy yn yd) (ErrS 22)) (ErrS 23)) w e w':=by
 obtain ⟨v,hA,gg,T0,X0,Y0,R0,sz4⟩:=lay4 w #[.bool bt,.slice a5 tn.length c5,.slice a6 td.length c6] #[.bool bx,.slice a1 xn.length c1,.slice a2 xd.length c2] #[.bool cy,.slice a3 yn.length c3,.slice a4 yd.length c4] #[.bool false,.slice none 0 0,.slice none 0 0] 24 24 24 24;have HR:=six_rd h1 h2 h3 h4 h5 h6;clear h1 h2 h3 h4 h5 h6;go_enter Tryz.func9,Tryz.ntmps9
 go_wp2_with fail
 clear hA;refine (refIsDyadic_any g v).mono ?_;rintro e w1 ⟨rfl,b1⟩;have s1:=b1.size;have g1:Below w.heap.size w w1:=gg.trans (b1.mono gg.size);have T1:=T0.below b1 (by omega);have X1:=X0.below b1 (by omega);have Y1:=Y0.below b1 (by omega);have R1:=R0.below b1 (by omega);obtain ⟨B,hB⟩:∃ B,(([43,45,215,247,8968,8970,124,42,33,60,8804,61,8805,62,8800,8743,8744,9074,9073]:List Int).contains g)=B:=⟨_,rfl⟩;rw [hB];have HB:=hidK hB;clear hB
 cases B with
 | false=>
  obtain ⟨r0,r1,r2,f0,f1,f2⟩:=R1.six;obtain ⟨y0,y1,y2⟩:=R1.put3 (.bool false) (.slice none 0 0) (.slice none 0 0);go_wp2
  refine bodyPost_ret (v:=.tuple #[.agg #[.bool false,.slice none 0 0,.slice none 0 0],.int .i64 23]) (by simp [results,Tryz.results9,go_sem,y0,y1,y2]) rfl ?_;exact (told_err 23 (Below.set3 g1 (by omega) _ _ _)).no (fun h=>by rw [HB.out] at h;cases h)
 | true=>
  obtain ⟨t0,t1,t2,-⟩:=T1.six
  go_wp2_with fail
  clear t0 t1 t2;refine (refRight_rat (b:=bt) (HR.out _ g1).1 (HR.out _ g1).2.1).mono ?_;rintro e w2 ⟨⟨ra,rfl,ha⟩,b2⟩;have s2:=b2.size;have g2:Below w.heap.size w w2:=g1.trans (b2.mono g1.size);have T2:=T1.below b2 (by omega);have X2:=X1.below b2 (by omega);have Y2:=Y1.below b2 (by omega);have R2:=R1.below b2 (by omega)
  cases ra with
  | false=>
   have HN:Hid (¬ (RightP bt tn td∧RightP bx xn xd∧RightP cy yn yd)):=fun k=>no_right ha k.1;clear ha;obtain ⟨r0,r1,r2,f0,f1,f2⟩:=R2.six;obtain ⟨y0,y1,y2⟩:=R2.put3 (.bool false) (.slice none 0 0) (.slice none 0 0);go_wp2
   refine bodyPost_ret (v:=.tuple #[.agg #[.bool false,.slice none 0 0,.slice none 0 0],.int .i64 22]) (by simp [results,Tryz.results9,go_sem,y0,y1,y2]) rfl ?_;exact ((told_err 22 (Below.set3 g2 (by omega) _ _ _)).no HN.out).yes HB.out
  | true=>
   have HT:=hidK (ha.1 rfl);clear ha;obtain ⟨x0,x1,x2,-⟩:=X2.six
   go_wp2_with fail
   clear x0 x1 x2;refine (refRight_rat (b:=bx) (HR.out _ g2).2.2.1 (HR.out _ g2).2.2.2.1).mono ?_;rintro e w3 ⟨⟨ra,rfl,ha⟩,b3⟩;have s3:=b3.size;have g3:Below w.heap.size w w3:=g2.trans (b3.mono g2.size);have T3:=T2.below b3 (by omega);have X3:=X2.below b3 (by omega);have Y3:=Y2.below b3 (by omega);have R3:=R2.below b3 (by omega)
   cases ra with
   | false=>
    have HN:Hid (¬ (RightP bt tn td∧RightP bx xn xd∧RightP cy yn yd)):=fun k=>no_right ha k.2.1;clear ha;obtain ⟨r0,r1,r2,f0,f1,f2⟩:=R3.six;obtain ⟨y0,y1,y2⟩:=R3.put3 (.bool false) (.slice none 0 0) (.slice none 0 0);go_wp2
    refine bodyPost_ret (v:=.tuple #[.agg #[.bool false,.slice none 0 0,.slice none 0 0],.int .i64 22]) (by simp [results,Tryz.results9,go_sem,y0,y1,y2]) rfl ?_;exact ((told_err 22 (Below.set3 g3 (by omega) _ _ _)).no HN.out).yes HB.out
   | true=>
    have HX:=hidK (ha.1 rfl);clear ha;obtain ⟨y0,y1,y2,-⟩:=Y3.six
    go_wp2_with fail
    clear y0 y1 y2;refine (refRight_rat (b:=cy) (HR.out _ g3).2.2.2.2.1 (HR.out _ g3).2.2.2.2.2).mono ?_;rintro e w4 ⟨⟨ra,rfl,ha⟩,b4⟩;have s4:=b4.size;have g4:Below w.heap.size w w4:=g3.trans (b4.mono g3.size);have T4:=T3.below b4 (by omega);have X4:=X3.below b4 (by omega);have Y4:=Y3.below b4 (by omega);have R4:=R3.below b4 (by omega)
    cases ra with
    | false=>
     have HN:Hid (¬ (RightP bt tn td∧RightP bx xn xd∧RightP cy yn yd)):=fun k=>no_right ha k.2.2;clear ha;obtain ⟨r0,r1,r2,f0,f1,f2⟩:=R4.six;obtain ⟨y0,y1,y2⟩:=R4.put3 (.bool false) (.slice none 0 0) (.slice none 0 0);go_wp2
     refine bodyPost_ret (v:=.tuple #[.agg #[.bool false,.slice none 0 0,.slice none 0 0],.int .i64 22]) (by simp [results,Tryz.results9,go_sem,y0,y1,y2]) rfl ?_;exact ((told_err 22 (Below.set3 g4 (by omega) _ _ _)).no HN.out).yes HB.out
    | true=>
     have HY:=hidK (ha.1 rfl);clear ha;have HP:Hid (RightP bt tn td∧RightP bx xn xd∧RightP cy yn yd):=⟨HT.out,HX.out,HY.out⟩;clear HT HX HY;obtain ⟨t0,t1,t2,-⟩:=T4.six;obtain ⟨x0,x1,x2,-⟩:=X4.six;obtain ⟨y0,y1,y2,-⟩:=Y4.six
     go_wp2_with fail
     clear t0 t1 t2 x0 x1 x2 y0 y1 y2;refine (refTolerant_rat (bt:=bt) (bx:=bx) (cy:=cy) (HR.out _ g4).1 (HR.out _ g4).2.1 (HR.out _ g4).2.2.1 (HR.out _ g4).2.2.2.1 (HR.out _ g4).2.2.2.2.1 (HR.out _ g4).2.2.2.2.2).mono ?_;rintro e w5 ⟨b5,c,rfl,HTol⟩;have s5:=b5.size;have g5:Below w.heap.size w w5:=g4.trans (b5.mono g4.size);have T5:=T4.below b5 (by omega);have X5:=X4.below b5 (by omega);have Y5:=Y4.below b5 (by omega);have R5:=R4.below b5 (by omega);have hg:(g=43∨g=45∨g=215∨g=247∨g=124∨g=42∨g=33∨g=8743∨g=8744∨g=9074∨g=9073)∨(g=60∨g=8804∨g=61∨g=8805∨g=62∨g=8800)∨g=8968∨g=8970:=by
      have h:g=43∨g=45∨g=215∨g=247∨g=8968∨g=8970∨g=124∨g=42∨g=33∨g=60∨g=8804∨g=61∨g=8805∨g=62∨g=8800∨g=8743∨g=8744∨g=9074∨g=9073:=by simpa using HB.out
      rcases h with rfl | rfl | rfl | rfl | rfl | rfl | rfl | rfl | rfl | rfl | rfl | rfl | rfl | rfl | rfl | rfl | rfl | rfl | rfl <;> decide
     rcases hg with hg | hg | rfl | rfl
     · rcases hg with rfl | rfl | rfl | rfl | rfl | rfl | rfl | rfl | rfl | rfl | rfl
       all_goals
        obtain ⟨x0,x1,x2,-⟩:=X5.six;obtain ⟨y0,y1,y2,-⟩:=Y5.six
        go_wp2_with fail
        clear x0 x1 x2 y0 y1 y2;refine told_call (S:=TwoS _ bt tn td bx xn xd cy yn yd) (by first | exact (Calls.mono (refTwo_rat (bx:=bx) (cy:=cy) (HR.out _ g5).2.2.1 (HR.out _ g5).2.2.2.1 (HR.out _ g5).2.2.2.2.1 (HR.out _ g5).2.2.2.2.2 HP.out.2.1 HP.out.2.2) fun e w' h=>(show Told (TwoS 43 bt tn td bx xn xd cy yn yd) w5 e w' by rw [twoS_43];exact told_makes h (Int.mul_pos (right_pos HP.out.2.1).1 (right_pos HP.out.2.2).1) HP.out.2)) | exact (Calls.mono (refSub_rat (bx:=bx) (cy:=cy) (HR.out _ g5).2.2.1 (HR.out _ g5).2.2.2.1 (HR.out _ g5).2.2.2.2.1 (HR.out _ g5).2.2.2.2.2) fun e w' h=>(show Told (TwoS 45 bt tn td bx xn xd cy yn yd) w5 e w' by rw [twoS_45];exact told_gives h)) | exact (Calls.mono (refTimes_rat (bx:=bx) (cy:=cy) (HR.out _ g5).2.2.1 (HR.out _ g5).2.2.2.1 (HR.out _ g5).2.2.2.2.1 (HR.out _ g5).2.2.2.2.2 HP.out.2.1 HP.out.2.2) fun e w' h=>(show Told (TwoS 215 bt tn td bx xn xd cy yn yd) w5 e w' by rw [twoS_215];exact told_makes h (Int.mul_pos (right_pos HP.out.2.1).1 (right_pos HP.out.2.2).1) HP.out.2)) | exact (Calls.mono (refDiv_all (bx:=bx) (cy:=cy) (HR.out _ g5).2.2.1 (HR.out _ g5).2.2.2.1 (HR.out _ g5).2.2.2.2.1 (HR.out _ g5).2.2.2.2.2) fun e w' h=>(show Told (TwoS 247 bt tn td bx xn xd cy yn yd) w5 e w' by rw [twoS_247];exact h)) | exact (Calls.mono (refResidue_rat (bx:=bx) (cy:=cy) (HR.out _ g5).2.2.1 (HR.out _ g5).2.2.2.1 (HR.out _ g5).2.2.2.2.1 (HR.out _ g5).2.2.2.2.2) fun e w' h=>(show Told (TwoS 124 bt tn td bx xn xd cy yn yd) w5 e w' by rw [twoS_124];exact h.spec)) | exact (Calls.mono (refPower_rat (bx:=bx) (cy:=cy) (HR.out _ g5).2.2.1 (HR.out _ g5).2.2.2.1 (HR.out _ g5).2.2.2.2.1 (HR.out _ g5).2.2.2.2.2) fun e w' h=>(show Told (TwoS 42 bt tn td bx xn xd cy yn yd) w5 e w' by rw [twoS_42];exact h)) | exact (Calls.mono (refBinomial_rat (bx:=bx) (cy:=cy) (HR.out _ g5).2.2.1 (HR.out _ g5).2.2.2.1 (HR.out _ g5).2.2.2.2.1 (HR.out _ g5).2.2.2.2.2) fun e w' h=>(show Told (TwoS 33 bt tn td bx xn xd cy yn yd) w5 e w' by rw [twoS_33];exact h)) | exact (Calls.mono (refBits5_any (bx:=bx) (cy:=cy) HP.out.2.1 HP.out.2.2 (HR.out _ g5).2.2.1 (HR.out _ g5).2.2.2.1 (HR.out _ g5).2.2.2.2.1 (HR.out _ g5).2.2.2.2.2 bitG_8743) fun e w' h=>(show Told (TwoS 8743 bt tn td bx xn xd cy yn yd) w5 e w' by rw [twoS_8743];exact h)) | exact (Calls.mono (refBits5_any (bx:=bx) (cy:=cy) HP.out.2.1 HP.out.2.2 (HR.out _ g5).2.2.1 (HR.out _ g5).2.2.2.1 (HR.out _ g5).2.2.2.2.1 (HR.out _ g5).2.2.2.2.2 bitG_8744) fun e w' h=>(show Told (TwoS 8744 bt tn td bx xn xd cy yn yd) w5 e w' by rw [twoS_8744];exact h)) | exact (Calls.mono (refBits5_any (bx:=bx) (cy:=cy) HP.out.2.1 HP.out.2.2 (HR.out _ g5).2.2.1 (HR.out _ g5).2.2.2.1 (HR.out _ g5).2.2.2.2.1 (HR.out _ g5).2.2.2.2.2 bitG_9074) fun e w' h=>(show Told (TwoS 9074 bt tn td bx xn xd cy yn yd) w5 e w' by rw [twoS_9074];exact h)) | exact (Calls.mono (refBits5_any (bx:=bx) (cy:=cy) HP.out.2.1 HP.out.2.2 (HR.out _ g5).2.2.1 (HR.out _ g5).2.2.2.1 (HR.out _ g5).2.2.2.2.1 (HR.out _ g5).2.2.2.2.2 bitG_9073) fun e w' h=>(show Told (TwoS 9073 bt tn td bx xn xd cy yn yd) w5 e w' by rw [twoS_9073];exact h))) ?_
        rintro e w6 ⟨b,ns,ds,err,HS,b6,z1,u1,z2,u2,rfl,q1,q2⟩;have s6:=b6.size;have g6:Below w.heap.size w w6:=g5.trans (b6.mono g5.size);have R6:=R5.below b6 (by omega);have Q1:=hidK q1;have Q2:=hidK q2;clear q1 q2;obtain ⟨r0,r1,r2,f0,f1,f2⟩:=R6.six;obtain ⟨y0,y1,y2⟩:=R6.put3 (.bool b) (.slice z1 ns.length u1) (.slice z2 ds.length u2);go_wp2
        refine bodyPost_ret (v:=.tuple #[.agg #[.bool b,.slice z1 ns.length u1,.slice z2 ds.length u2],.int .i64 err]) (by simp [results,Tryz.results9,go_sem,y0,y1,y2]) rfl ?_;exact ((told_put HS g6 Q1.out Q2.out R6 (by omega)).yes HP.out).yes HB.out
     · rcases hg with rfl | rfl | rfl | rfl | rfl | rfl
       all_goals
        go_wp2_with fail
        refine (refBool01_any _ _).mono ?_;rintro e w6 ⟨b6,b,ns,ds,z1,u1,z2,u2,HW,rfl,o1,o2⟩;have s6:=b6.size;have g6:Below w.heap.size w w6:=g5.trans (b6.mono g5.size);have R6:=R5.below b6 (by omega);have q1:=o1.rd;have q2:=o2.rd;clear o1 o2;have Q1:=hidK q1;have Q2:=hidK q2;clear q1 q2;obtain ⟨r0,r1,r2,f0,f1,f2⟩:=R6.six;obtain ⟨y0,y1,y2⟩:=R6.put3 (.bool b) (.slice z1 ns.length u1) (.slice z2 ds.length u2);go_wp2
        refine bodyPost_ret (v:=.tuple #[.agg #[.bool b,.slice z1 ns.length u1,.slice z2 ds.length u2],.int .i64 0]) (by simp [results,Tryz.results9,go_sem,y0,y1,y2]) rfl ?_
        first | rw [twoS_60] | rw [twoS_8804] | rw [twoS_61] | rw [twoS_8805] | rw [twoS_62] | rw [twoS_8800]
        exact ((told_put (S:=CmpS _ (TolR bt tn td bx xn xd cy yn yd)) (show CmpS _ (TolR bt tn td bx xn xd cy yn yd) b ns ds 0 from ⟨rfl,c,HTol.out,HW.out⟩) g6 Q1.out Q2.out R6 (by omega)).yes HP.out).yes HB.out
     · obtain ⟨x0,x1,x2,-⟩:=X5.six
       obtain ⟨y0,y1,y2,-⟩:=Y5.six
       go_wp2_with fail
       clear x0 x1 x2 y0 y1 y2;refine (refCompare_rat (bx:=bx) (cy:=cy) (HR.out _ g5).2.2.1 (HR.out _ g5).2.2.2.1 (HR.out _ g5).2.2.2.2.1 (HR.out _ g5).2.2.2.2.2).mono ?_;rintro e w6 ⟨b6,r,rfl,hr0,hr1⟩;have s6:=b6.size;have g6:Below w.heap.size w w6:=g5.trans (b6.mono g5.size);have T6:=T5.below b6 (by omega);have X6:=X5.below b6 (by omega);have Y6:=Y5.below b6 (by omega);have R6:=R5.below b6 (by omega);replace hr1:=hr1 HP.out.2;clear hr0;by_cases hc:sg bx (val xn)*val yd<sg cy (val yn)*val xd
       · rw [cmpI_lt hc] at hr1
         subst hr1;have hS:=(twoS_8968 (bt:=bt) (tn:=tn) (td:=td) (bx:=bx) (xn:=xn) (xd:=xd) (cy:=cy) (yn:=yn) (yd:=yd)).trans (show PickS _ bx xn xd cy yn yd=NumS cy yn yd from if_neg (fun h=>h hc));clear hc;obtain ⟨y0,y1,y2,-⟩:=Y6.six
         go_wp2_with fail
         clear y0 y1 y2;refine (refCopy_any (b:=cy) (HR.out _ g6).2.2.2.2.1 (HR.out _ g6).2.2.2.2.2 (by have:=HP.out.2.2.1;omega) (by have:=HP.out.2.2.2.1;omega)).mono ?_;rintro e w7 ⟨b7,z1,u1,z2,u2,rfl,o1,o2⟩;have s7:=b7.size;have g7:Below w.heap.size w w7:=g6.trans (b7.mono g6.size);have R7:=R6.below b7 (by omega);have q1:=o1.rd;have q2:=o2.rd;clear o1 o2;have Q1:=hidK q1;have Q2:=hidK q2;clear q1 q2;obtain ⟨r0,r1,r2,f0,f1,f2⟩:=R7.six;obtain ⟨y0,y1,y2⟩:=R7.put3 (.bool cy) (.slice z1 yn.length u1) (.slice z2 yd.length u2);go_wp2
         refine bodyPost_ret (v:=.tuple #[.agg #[.bool cy,.slice z1 yn.length u1,.slice z2 yd.length u2],.int .i64 0]) (by simp [results,Tryz.results9,go_sem,y0,y1,y2]) rfl ?_;rw [hS];exact ((told_put (S:=NumS cy yn yd) (show NumS cy yn yd cy yn yd 0 from ⟨rfl,rfl,rfl,rfl⟩) g7 Q1.out Q2.out R7 (by omega)).yes HP.out).yes HB.out
       · have hz:decide (r<0)=false:=by rw [hr1,decide_eq_false_iff_not];unfold cmpI;split <;> (try split) <;> omega
         clear hr1;have hS:=(twoS_8968 (bt:=bt) (tn:=tn) (td:=td) (bx:=bx) (xn:=xn) (xd:=xd) (cy:=cy) (yn:=yn) (yd:=yd)).trans (show PickS _ bx xn xd cy yn yd=NumS bx xn xd from if_pos hc);clear hc;obtain ⟨x0,x1,x2,-⟩:=X6.six
         go_wp2_with fail
         clear x0 x1 x2;refine (refCopy_any (b:=bx) (HR.out _ g6).2.2.1 (HR.out _ g6).2.2.2.1 (by have:=HP.out.2.1.1;omega) (by have:=HP.out.2.1.2.1;omega)).mono ?_;rintro e w7 ⟨b7,z1,u1,z2,u2,rfl,o1,o2⟩;have s7:=b7.size;have g7:Below w.heap.size w w7:=g6.trans (b7.mono g6.size);have R7:=R6.below b7 (by omega);have q1:=o1.rd;have q2:=o2.rd;clear o1 o2;have Q1:=hidK q1;have Q2:=hidK q2;clear q1 q2;obtain ⟨r0,r1,r2,f0,f1,f2⟩:=R7.six;obtain ⟨y0,y1,y2⟩:=R7.put3 (.bool bx) (.slice z1 xn.length u1) (.slice z2 xd.length u2);go_wp2
         refine bodyPost_ret (v:=.tuple #[.agg #[.bool bx,.slice z1 xn.length u1,.slice z2 xd.length u2],.int .i64 0]) (by simp [results,Tryz.results9,go_sem,y0,y1,y2]) rfl ?_;rw [hS];exact ((told_put (S:=NumS bx xn xd) (show NumS bx xn xd bx xn xd 0 from ⟨rfl,rfl,rfl,rfl⟩) g7 Q1.out Q2.out R7 (by omega)).yes HP.out).yes HB.out
     · obtain ⟨x0,x1,x2,-⟩:=X5.six
       obtain ⟨y0,y1,y2,-⟩:=Y5.six
       go_wp2_with fail
       clear x0 x1 x2 y0 y1 y2;refine (refCompare_rat (bx:=bx) (cy:=cy) (HR.out _ g5).2.2.1 (HR.out _ g5).2.2.2.1 (HR.out _ g5).2.2.2.2.1 (HR.out _ g5).2.2.2.2.2).mono ?_;rintro e w6 ⟨b6,r,rfl,hr0,hr1⟩;have s6:=b6.size;have g6:Below w.heap.size w w6:=g5.trans (b6.mono g5.size);have T6:=T5.below b6 (by omega);have X6:=X5.below b6 (by omega);have Y6:=Y5.below b6 (by omega);have R6:=R5.below b6 (by omega);replace hr1:=hr1 HP.out.2;clear hr0;by_cases hc:sg cy (val yn)*val xd<sg bx (val xn)*val yd
       · rw [cmpI_gt hc] at hr1
         subst hr1;have hS:=(twoS_8970 (bt:=bt) (tn:=tn) (td:=td) (bx:=bx) (xn:=xn) (xd:=xd) (cy:=cy) (yn:=yn) (yd:=yd)).trans (show PickS _ bx xn xd cy yn yd=NumS cy yn yd from if_neg (fun h=>h hc));clear hc;obtain ⟨y0,y1,y2,-⟩:=Y6.six
         go_wp2_with fail
         clear y0 y1 y2;refine (refCopy_any (b:=cy) (HR.out _ g6).2.2.2.2.1 (HR.out _ g6).2.2.2.2.2 (by have:=HP.out.2.2.1;omega) (by have:=HP.out.2.2.2.1;omega)).mono ?_;rintro e w7 ⟨b7,z1,u1,z2,u2,rfl,o1,o2⟩;have s7:=b7.size;have g7:Below w.heap.size w w7:=g6.trans (b7.mono g6.size);have R7:=R6.below b7 (by omega);have q1:=o1.rd;have q2:=o2.rd;clear o1 o2;have Q1:=hidK q1;have Q2:=hidK q2;clear q1 q2;obtain ⟨r0,r1,r2,f0,f1,f2⟩:=R7.six;obtain ⟨y0,y1,y2⟩:=R7.put3 (.bool cy) (.slice z1 yn.length u1) (.slice z2 yd.length u2);go_wp2
         refine bodyPost_ret (v:=.tuple #[.agg #[.bool cy,.slice z1 yn.length u1,.slice z2 yd.length u2],.int .i64 0]) (by simp [results,Tryz.results9,go_sem,y0,y1,y2]) rfl ?_;rw [hS];exact ((told_put (S:=NumS cy yn yd) (show NumS cy yn yd cy yn yd 0 from ⟨rfl,rfl,rfl,rfl⟩) g7 Q1.out Q2.out R7 (by omega)).yes HP.out).yes HB.out
       · have hz:decide (0<r)=false:=by rw [hr1,decide_eq_false_iff_not];unfold cmpI;split <;> (try split) <;> omega
         clear hr1;have hS:=(twoS_8970 (bt:=bt) (tn:=tn) (td:=td) (bx:=bx) (xn:=xn) (xd:=xd) (cy:=cy) (yn:=yn) (yd:=yd)).trans (show PickS _ bx xn xd cy yn yd=NumS bx xn xd from if_pos hc);clear hc;obtain ⟨x0,x1,x2,-⟩:=X6.six
         go_wp2_with fail
         clear x0 x1 x2;refine (refCopy_any (b:=bx) (HR.out _ g6).2.2.1 (HR.out _ g6).2.2.2.1 (by have:=HP.out.2.1.1;omega) (by have:=HP.out.2.1.2.1;omega)).mono ?_;rintro e w7 ⟨b7,z1,u1,z2,u2,rfl,o1,o2⟩;have s7:=b7.size;have g7:Below w.heap.size w w7:=g6.trans (b7.mono g6.size);have R7:=R6.below b7 (by omega);have q1:=o1.rd;have q2:=o2.rd;clear o1 o2;have Q1:=hidK q1;have Q2:=hidK q2;clear q1 q2;obtain ⟨r0,r1,r2,f0,f1,f2⟩:=R7.six;obtain ⟨y0,y1,y2⟩:=R7.put3 (.bool bx) (.slice z1 xn.length u1) (.slice z2 xd.length u2);go_wp2
         refine bodyPost_ret (v:=.tuple #[.agg #[.bool bx,.slice z1 xn.length u1,.slice z2 xd.length u2],.int .i64 0]) (by simp [results,Tryz.results9,go_sem,y0,y1,y2]) rfl ?_;rw [hS];exact ((told_put (S:=NumS bx xn xd) (show NumS bx xn xd bx xn xd 0 from ⟨rfl,rfl,rfl,rfl⟩) g7 Q1.out Q2.out R7 (by omega)).yes HP.out).yes HB.out
end
end Go.Proofs.YtilbfkabfgnhpaaGreat
