/- ScalarNumbers: the document's functions of one number. -/
import Derived.Test.YtilbfkabfgnhpaaGreatV1
import Derived.Test.YtilbfkabfgnhpaaGreatV3
import Derived.Test.YtilbfkabfgnhpaaGreatU2
import Derived.Test.YtilbfkabfgnhpaaGreatU1
import Derived.Test.YtilbfkabfgnhpaaGreatK7
import Derived.Test.YtilbfkabfgnhpaaGreatKC
set_option maxRecDepth 100000
set_option maxHeartbeats 64000000
set_option linter.unusedVariables false
set_option linter.unusedSimpArgs false
namespace Go.Proofs.YtilbfkabfgnhpaaGreat
open Go.RowKit
theorem right_one1:RightP false [(1:Int)] [(1:Int)]:=⟨by decide,by decide,can_one,can_one,(fun h=>by cases h.1),by decide,by decide⟩
section
variable {w:World} {bx:Bool} {a1 a2:Option Addr} {c1 c2:Nat} {xn xd:List Int} {g:Int}
theorem dmon_any (h1:Rd w.heap.size w (.slice a1 xn.length c1) xn) (h2:Rd w.heap.size w (.slice a2 xd.length c2) xd) :
    Calls Tryz.prog 5 #[.int .i32 g,.agg #[.bool bx,.slice a1 xn.length c1,.slice a2 xd.length c2]] w fun e w'=>Told (PartS ((([43,45,215,247,8968,8970,124,42,33,126]:List Int).contains g)=true) (PartS (RightP bx xn xd) (OneS g bx xn xd) (ErrS 22)) (ErrS 23)) w e w':=by
 obtain ⟨v,hA,gg,Xb,R,sz⟩:=lay2 w #[.bool bx,.slice a1 xn.length c1,.slice a2 xd.length c2] #[.bool false,.slice none 0 0,.slice none 0 0] 24 24;have HR:Hid (∀ {w':World},Below w.heap.size w w'→Rd w'.heap.size w' (.slice a1 xn.length c1) xn∧Rd w'.heap.size w' (.slice a2 xd.length c2) xd):=fun k=>⟨(h1.below k).mono k.size,(h2.below k).mono k.size⟩;clear h1 h2;obtain ⟨x0,x1,x2,-⟩:=Xb.six;go_enter Tryz.func5,Tryz.ntmps5
 go_wp2_with fail
 clear hA x0 x1 x2;refine (refIsMonadic_any g v).mono ?_;rintro e w1 ⟨rfl,b1⟩;have s1:=b1.size;have g1:Below w.heap.size w w1:=gg.trans (b1.mono gg.size);have X1:=Xb.below b1 (by omega);have R1:=R.below b1 (by omega);obtain ⟨B,hB⟩:∃ B,(([43,45,215,247,8968,8970,124,42,33,126]:List Int).contains g)=B:=⟨_,rfl⟩;rw [hB];have HB:=hidK hB;clear hB
 cases B with
 | false=>
  obtain ⟨r0,r1,r2,f0,f1,f2⟩:=R1.six;obtain ⟨y0,y1,y2⟩:=R1.put3 (.bool false) (.slice none 0 0) (.slice none 0 0);go_wp2
  refine bodyPost_ret (v:=.tuple #[.agg #[.bool false,.slice none 0 0,.slice none 0 0],.int .i64 23]) (by simp [results,Tryz.results5,go_sem,y0,y1,y2]) rfl ?_;exact (told_err 23 (Below.set3 g1 (by omega) _ _ _)).no (fun h=>by rw [HB.out] at h;cases h)
 | true=>
  obtain ⟨x0,x1,x2,-⟩:=X1.six
  go_wp2_with fail
  clear x0 x1 x2;refine (refRight_rat (b:=bx) (HR.out g1).1 (HR.out g1).2).mono ?_;rintro e w2 ⟨⟨ra,rfl,ha⟩,b2⟩;have s2:=b2.size;have g2:Below w.heap.size w w2:=g1.trans (b2.mono g1.size);have X2:=X1.below b2 (by omega);have R2:=R1.below b2 (by omega)
  cases ra with
  | false=>
   have HN:=hidK (no_right ha);clear ha;obtain ⟨r0,r1,r2,f0,f1,f2⟩:=R2.six;obtain ⟨y0,y1,y2⟩:=R2.put3 (.bool false) (.slice none 0 0) (.slice none 0 0);go_wp2
   refine bodyPost_ret (v:=.tuple #[.agg #[.bool false,.slice none 0 0,.slice none 0 0],.int .i64 22]) (by simp [results,Tryz.results5,go_sem,y0,y1,y2]) rfl ?_;exact ((told_err 22 (Below.set3 g2 (by omega) _ _ _)).no HN.out).yes HB.out
  | true=>
   have HP:=hidK (ha.1 rfl);clear ha;have hg:(g=45∨g=8968∨g=8970∨g=124∨g=33)∨g=43∨g=215∨g=247∨g=42∨g=126:=by
    have h:g=43∨g=45∨g=215∨g=247∨g=8968∨g=8970∨g=124∨g=42∨g=33∨g=126:=by simpa using HB.out
    rcases h with rfl | rfl | rfl | rfl | rfl | rfl | rfl | rfl | rfl | rfl <;> decide
   rcases hg with hg | rfl | rfl | rfl | rfl | rfl
   · rcases hg with rfl | rfl | rfl | rfl | rfl
     all_goals
      obtain ⟨x0,x1,x2,-⟩:=X2.six
      go_wp2_with fail
      clear x0 x1 x2;refine told_call (S:=OneS _ bx xn xd) (by first | exact (Calls.mono (refNeg_rat (b:=bx) (HR.out g2).1 (HR.out g2).2) fun e w' h=>(show Told (OneS 45 bx xn xd) w2 e w' by rw [oneS_45];exact told_gives h)) | exact (Calls.mono (refCeil_rat (b:=bx) (HR.out g2).1 (HR.out g2).2) fun e w' h=>(show Told (OneS 8968 bx xn xd) w2 e w' by rw [oneS_8968];exact told_gives h)) | exact (Calls.mono (refFloor_rat (bx:=bx) (HR.out g2).1 (HR.out g2).2) fun e w' h=>(show Told (OneS 8970 bx xn xd) w2 e w' by rw [oneS_8970];exact told_gives h)) | exact (Calls.mono (refAbs_rat (b:=bx) (HR.out g2).1 (HR.out g2).2) fun e w' h=>(show Told (OneS 124 bx xn xd) w2 e w' by rw [oneS_124];exact told_gives h)) | exact (Calls.mono (refFactorial_rat (b:=bx) (HR.out g2).1 (HR.out g2).2) fun e w' h=>(show Told (OneS 33 bx xn xd) w2 e w' by rw [oneS_33];exact h))) ?_
      rintro e w3 ⟨b,ns,ds,err,HS,b3,z1,u1,z2,u2,rfl,q1,q2⟩;have s3:=b3.size;have g3:Below w.heap.size w w3:=g2.trans (b3.mono g2.size);have R3:=R2.below b3 (by omega);have Q1:=hidK q1;have Q2:=hidK q2;clear q1 q2;obtain ⟨r0,r1,r2,f0,f1,f2⟩:=R3.six;obtain ⟨y0,y1,y2⟩:=R3.put3 (.bool b) (.slice z1 ns.length u1) (.slice z2 ds.length u2);go_wp2
      refine bodyPost_ret (v:=.tuple #[.agg #[.bool b,.slice z1 ns.length u1,.slice z2 ds.length u2],.int .i64 err]) (by simp [results,Tryz.results5,go_sem,y0,y1,y2]) rfl ?_;exact ((told_put HS g3 Q1.out Q2.out R3 (by omega)).yes HP.out).yes HB.out
   · obtain ⟨x0,x1,x2,-⟩:=X2.six
     go_wp2_with fail
     clear x0 x1 x2;refine (refCopy_any (b:=bx) (HR.out g2).1 (HR.out g2).2 (by have:=HP.out.1;omega) (by have:=HP.out.2.1;omega)).mono ?_;rintro e w3 ⟨b3,z1,u1,z2,u2,rfl,o1,o2⟩;have s3:=b3.size;have g3:Below w.heap.size w w3:=g2.trans (b3.mono g2.size);have R3:=R2.below b3 (by omega);have q1:=o1.rd;have q2:=o2.rd;clear o1 o2;have Q1:=hidK q1;have Q2:=hidK q2;clear q1 q2;obtain ⟨r0,r1,r2,f0,f1,f2⟩:=R3.six;obtain ⟨y0,y1,y2⟩:=R3.put3 (.bool bx) (.slice z1 xn.length u1) (.slice z2 xd.length u2);go_wp2
     refine bodyPost_ret (v:=.tuple #[.agg #[.bool bx,.slice z1 xn.length u1,.slice z2 xd.length u2],.int .i64 0]) (by simp [results,Tryz.results5,go_sem,y0,y1,y2]) rfl ?_;rw [oneS_43];exact ((told_put (S:=NumS bx xn xd) (show NumS bx xn xd bx xn xd 0 from ⟨rfl,rfl,rfl,rfl⟩) g3 Q1.out Q2.out R3 (by omega)).yes HP.out).yes HB.out
   · obtain ⟨x0,x1,x2,-⟩:=X2.six
     go_wp2_with fail
     clear x0 x1 x2;refine (refSign_rat (bx:=bx) (HR.out g2).1 (HR.out g2).2).mono ?_;rintro e w3 ⟨b3,r,rfl,HG⟩;have s3:=b3.size;have g3:Below w.heap.size w w3:=g2.trans (b3.mono g2.size);have X3:=X2.below b3 (by omega);have R3:=R2.below b3 (by omega);have hr:r=cmpI (sg bx (val xn)) 0:=HG.out.2 HP.out;have hr0:-1≤r∧r≤1:=by rw [hr];unfold cmpI;split <;> (try split) <;> omega
     have HE:=hidK hr;clear hr HG
     go_wp2_with fail
     refine (refOfInt_any r (by omega) (by omega) _).mono ?_;rintro e w4 ⟨b4,b,ns,ds,z1,u1,z2,u2,HW,rfl,o1,o2⟩;have s4:=b4.size;have g4:Below w.heap.size w w4:=g3.trans (b4.mono g3.size);have R4:=R3.below b4 (by omega);have q1:=o1.rd;have q2:=o2.rd;clear o1 o2;have Q1:=hidK q1;have Q2:=hidK q2;clear q1 q2;obtain ⟨r0,r1,r2,f0,f1,f2⟩:=R4.six;obtain ⟨y0,y1,y2⟩:=R4.put3 (.bool b) (.slice z1 ns.length u1) (.slice z2 ds.length u2);go_wp2
     refine bodyPost_ret (v:=.tuple #[.agg #[.bool b,.slice z1 ns.length u1,.slice z2 ds.length u2],.int .i64 0]) (by simp [results,Tryz.results5,go_sem,y0,y1,y2]) rfl ?_;rw [oneS_215];exact ((told_put (S:=WholeS (cmpI (sg bx (val xn)) 0)) (show WholeS _ b ns ds 0 from ⟨rfl,HE.out ▸ HW.out⟩) g4 Q1.out Q2.out R4 (by omega)).yes HP.out).yes HB.out
   · by_cases h0:xn.length=0
     · have hz:((xn.length:Int)==0)=true:=by rw [beq_iff_eq];omega
       have HZ:=hidK h0;clear h0;obtain ⟨x0,x1,x2,-⟩:=X2.six;obtain ⟨r0,r1,r2,f0,f1,f2⟩:=R2.six;obtain ⟨y0,y1,y2⟩:=R2.put3 (.bool false) (.slice none 0 0) (.slice none 0 0);go_wp2
       refine bodyPost_ret (v:=.tuple #[.agg #[.bool false,.slice none 0 0,.slice none 0 0],.int .i64 3]) (by simp [results,Tryz.results5,go_sem,y0,y1,y2]) rfl ?_;rw [oneS_247];exact (((told_err 3 (Below.set3 g2 (by omega) _ _ _)).imp (fun b ns ds err h=>Or.inl ⟨HZ.out,Or.inr (Or.inl ⟨⟨right_one1,HP.out⟩,by decide,h.1,h.2.1,h.2.2.1,h.2.2.2⟩)⟩)).yes HP.out).yes HB.out
     · have hz:((xn.length:Int)==0)=false:=by rw [beq_eq_false_iff_ne];omega
       clear h0;obtain ⟨x0,x1,x2,-⟩:=X2.six
       go_wp2_with fail
       clear x0 x1 x2;have d0:Below w2.heap.size w2 w2.drew:=⟨rfl,rfl,rfl,Nat.le_refl _,fun _ _=>rfl⟩;have gd:Below w.heap.size w w2.drew:=g2.trans (d0.mono g2.size);have Xd:=X2.below d0 (by omega);have Rd0:=R2.below d0 (by omega);have s0:=d0.size;obtain ⟨x0,x1,x2,-⟩:=Xd.six
       first | go_region_with (first | (have j:=b3;refine (refDiv_all (bx:=b1') (cy:=bx) O1.out O2.out (HR.out g3).1 (HR.out g3).2).mono ?_;rintro e w4 ⟨b,ns,ds,err,HS,b4,z1,u1,z2,u2,rfl,q1,q2⟩;have s4:=b4.size;have g4:Below w.heap.size w w4:=g3.trans (b4.mono g3.size);have R4:=R3.below b4 (by omega);obtain ⟨r0,r1,r2,f0,f1,f2⟩:=R4.six) | (refine (refOfInt_any 1 (by decide) (by decide) _).mono ?_;rintro e w3 ⟨b3,b1',n1,d1,p1,p2,p3,p4,HW,rfl,o1,o2⟩;have O1:Hid (Rd w3.heap.size w3 (.slice p1 n1.length p2) n1):=o1.rd;have O2:Hid (Rd w3.heap.size w3 (.slice p3 d1.length p4) d1):=o2.rd;clear o1 o2;have s3:=b3.size;have g3:Below w.heap.size w w3:=gd.trans (b3.mono gd.size);have X3:=Xd.below b3 (by omega);have R3:=Rd0.below b3 (by omega);obtain ⟨x0',x1',x2',-⟩:=X3.six)) | fail
       all_goals
        have Q1:Hid (Rd w4.heap.size w4 (.slice z1 ns.length u1) ns):=q1;have Q2:Hid (Rd w4.heap.size w4 (.slice z2 ds.length u2) ds):=q2;clear q1 q2;obtain ⟨e1,e2,e3⟩:=whole_oneS HW.out;have HT:Hid ((QuotSpec (RightP false [1] [1]∧RightP bx xn xd) false [1] [1] bx xn xd) b ns ds err):=by
         have h:=HS.out;rw [e1,e2,e3] at h;exact h
        clear HS HW e1 e2 e3;obtain ⟨y0,y1,y2⟩:=R4.put3 (.bool b) (.slice z1 ns.length u1) (.slice z2 ds.length u2);go_wp2
        refine bodyPost_ret (v:=.tuple #[.agg #[.bool b,.slice z1 ns.length u1,.slice z2 ds.length u2],.int .i64 err]) (by simp [results,Tryz.results5,go_sem,y0,y1,y2]) rfl ?_;rw [oneS_247];exact ((told_put HT g4 Q1.out Q2.out R4 (by omega)).yes HP.out).yes HB.out
   · by_cases h0:xn.length=0
     · have hz:¬ 0<xn.length:=by omega
       have hS:=(oneS_42 (bx:=bx) (xd:=xd)).trans (if_pos h0);clear h0;obtain ⟨x0,x1,x2,-⟩:=X2.six
       go_wp2_with fail
       clear x0 x1 x2;refine (refOfInt_any 1 (by decide) (by decide) _).mono ?_;rintro e w3 ⟨b3,b,ns,ds,z1,u1,z2,u2,HW,rfl,o1,o2⟩;have s3:=b3.size;have g3:Below w.heap.size w w3:=g2.trans (b3.mono g2.size);have R3:=R2.below b3 (by omega);have q1:=o1.rd;have q2:=o2.rd;clear o1 o2;have Q1:=hidK q1;have Q2:=hidK q2;clear q1 q2;obtain ⟨r0,r1,r2,f0,f1,f2⟩:=R3.six;obtain ⟨y0,y1,y2⟩:=R3.put3 (.bool b) (.slice z1 ns.length u1) (.slice z2 ds.length u2);go_wp2
       refine bodyPost_ret (v:=.tuple #[.agg #[.bool b,.slice z1 ns.length u1,.slice z2 ds.length u2],.int .i64 0]) (by simp [results,Tryz.results5,go_sem,y0,y1,y2]) rfl ?_;rw [hS];exact ((told_put (S:=NumS false [1] [1]) (show NumS false [1] [1] b ns ds 0 from ⟨rfl,whole_oneS HW.out⟩) g3 Q1.out Q2.out R3 (by omega)).yes HP.out).yes HB.out
     · have hz:0<xn.length:=by omega
       have hS:=(oneS_42 (bx:=bx) (xd:=xd)).trans (if_neg h0);clear h0;obtain ⟨x0,x1,x2,-⟩:=X2.six;obtain ⟨r0,r1,r2,f0,f1,f2⟩:=R2.six;obtain ⟨y0,y1,y2⟩:=R2.put3 (.bool false) (.slice none 0 0) (.slice none 0 0);go_wp2
       refine bodyPost_ret (v:=.tuple #[.agg #[.bool false,.slice none 0 0,.slice none 0 0],.int .i64 3]) (by simp [results,Tryz.results5,go_sem,y0,y1,y2]) rfl ?_;rw [hS];exact ((told_err 3 (Below.set3 g2 (by omega) _ _ _)).yes HP.out).yes HB.out
   · obtain ⟨x0,x1,x2,-⟩:=X2.six
     go_wp2_with fail
     clear x0 x1 x2;refine (refIsBit_any (bx:=bx) HP.out (HR.out g2).1 (HR.out g2).2).mono ?_;rintro e w3 ⟨rfl,b3⟩;have s3:=b3.size;have g3:Below w.heap.size w w3:=g2.trans (b3.mono g2.size);have X3:=X2.below b3 (by omega);have R3:=R2.below b3 (by omega);by_cases h0:bitB bx xn xd=true
     · rw [h0]
       have hS:=(oneS_126 (bx:=bx) (xd:=xd)).trans (if_pos h0);have hz:((xn.length:Int)==0)=decide (xn=[]):=by cases xn <;> simp <;> omega
       clear h0;obtain ⟨x0,x1,x2,-⟩:=X3.six
       go_wp2_with fail
       clear x0 x1 x2
       try rw [hz]
       refine (refBool01_any (decide (xn=[])) _).mono ?_;rintro e w4 ⟨b4,b,ns,ds,z1,u1,z2,u2,HW,rfl,o1,o2⟩;have s4:=b4.size;have g4:Below w.heap.size w w4:=g3.trans (b4.mono g3.size);have R4:=R3.below b4 (by omega);have q1:=o1.rd;have q2:=o2.rd;clear o1 o2;have Q1:=hidK q1;have Q2:=hidK q2;clear q1 q2;obtain ⟨r0,r1,r2,f0,f1,f2⟩:=R4.six;obtain ⟨y0,y1,y2⟩:=R4.put3 (.bool b) (.slice z1 ns.length u1) (.slice z2 ds.length u2);go_wp2
       refine bodyPost_ret (v:=.tuple #[.agg #[.bool b,.slice z1 ns.length u1,.slice z2 ds.length u2],.int .i64 0]) (by simp [results,Tryz.results5,go_sem,y0,y1,y2]) rfl ?_;rw [hS];exact ((told_put (S:=NumS false (bitL (decide (xn=[]))) [1]) (show NumS false (bitL (decide (xn=[]))) [1] b ns ds 0 from ⟨rfl,HW.out⟩) g4 Q1.out Q2.out R4 (by omega)).yes HP.out).yes HB.out
     · rw [Bool.eq_false_iff.2 h0]
       have hS:=(oneS_126 (bx:=bx) (xd:=xd)).trans (if_neg h0);clear h0;obtain ⟨r0,r1,r2,f0,f1,f2⟩:=R3.six;obtain ⟨y0,y1,y2⟩:=R3.put3 (.bool false) (.slice none 0 0) (.slice none 0 0);go_wp2
       refine bodyPost_ret (v:=.tuple #[.agg #[.bool false,.slice none 0 0,.slice none 0 0],.int .i64 3]) (by simp [results,Tryz.results5,go_sem,y0,y1,y2]) rfl ?_;rw [hS];exact ((told_err 3 (Below.set3 g3 (by omega) _ _ _)).yes HP.out).yes HB.out
end
end Go.Proofs.YtilbfkabfgnhpaaGreat
