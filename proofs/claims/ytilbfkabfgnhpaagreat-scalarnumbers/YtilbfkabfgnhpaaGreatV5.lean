/- ScalarNumbers: the document's functions of two bits. -/
import Derived.Test.YtilbfkabfgnhpaaGreatV1
import Derived.Test.YtilbfkabfgnhpaaGreatV3
set_option maxRecDepth 100000
set_option maxHeartbeats 16000000
set_option linter.unusedVariables false
set_option linter.unusedSimpArgs false
namespace Go.Proofs.YtilbfkabfgnhpaaGreat
open Go.RowKit
/-- The glyph g is op of two bits. -/
def BitG (g:Int) (op:Bool→Bool→Bool):Prop:=(g=8743∧op=fun a b=>a && b)∨(g=8744∧op=fun a b=>a || b)∨(g=9074∧op=fun a b => !(a && b))∨(g=9073∧op=fun a b => !(a || b))
theorem bitG_8743:BitG 8743 (fun a b=>a && b):=Or.inl ⟨rfl,rfl⟩
theorem bitG_8744:BitG 8744 (fun a b=>a || b):=Or.inr (Or.inl ⟨rfl,rfl⟩)
theorem bitG_9074:BitG 9074 (fun a b => !(a && b)):=Or.inr (Or.inr (Or.inl ⟨rfl,rfl⟩))
theorem bitG_9073:BitG 9073 (fun a b => !(a || b)):=Or.inr (Or.inr (Or.inr (⟨rfl,rfl⟩)))
section
variable {w:World} {bx cy:Bool} {a1 a2 a3 a4:Option Addr} {xn xd yn yd:List Int} {c1 c2 c3 c4:Nat} {g:Int} {op:Bool→Bool→Bool}
theorem refBits5_any (hx:RightP bx xn xd) (hy:RightP cy yn yd) (h1:Rd w.heap.size w (.slice a1 xn.length c1) xn) (h2:Rd w.heap.size w (.slice a2 xd.length c2) xd) (h3:Rd w.heap.size w (.slice a3 yn.length c3) yn) (h4:Rd w.heap.size w (.slice a4 yd.length c4) yd) (hG:BitG g op) :
    Calls Tryz.prog 41 #[.int .i32 g,.agg #[.bool bx,.slice a1 xn.length c1,.slice a2 xd.length c2],.agg #[.bool cy,.slice a3 yn.length c3,.slice a4 yd.length c4]] w fun e w'=>Told (LogS op bx xn xd cy yn yd) w e w':=by
 have HG:=hidK hG;have HX:=hidK hx;have HY:=hidK hy;obtain ⟨v,hA,gg,X0,Y0,R0,sz⟩:=lay3 w #[.bool bx,.slice a1 xn.length c1,.slice a2 xd.length c2] #[.bool cy,.slice a3 yn.length c3,.slice a4 yd.length c4] #[.bool false,.slice none 0 0,.slice none 0 0] 24 24 24;have HR:Hid (∀ w':World,Below w.heap.size w w'→Rd w'.heap.size w' (.slice a1 xn.length c1) xn∧Rd w'.heap.size w' (.slice a2 xd.length c2) xd∧Rd w'.heap.size w' (.slice a3 yn.length c3) yn∧Rd w'.heap.size w' (.slice a4 yd.length c4) yd):=fun w' k=>⟨(h1.below k).mono k.size,(h2.below k).mono k.size,(h3.below k).mono k.size,(h4.below k).mono k.size⟩;clear h1 h2 h3 h4 hx hy hG;obtain ⟨x0,x1,x2,-⟩:=X0.six;go_enter Tryz.func41,Tryz.ntmps41
 go_wp2_with fail
 clear hA x0 x1 x2;refine (refIsBit_any (bx:=bx) HX.out (HR.out _ gg).1 (HR.out _ gg).2.1).mono ?_;rintro e w1 ⟨rfl,b1⟩;have s1:=b1.size;have g1:Below w.heap.size w w1:=gg.trans (b1.mono gg.size);have X1:=X0.below b1 (by omega);have Y1:=Y0.below b1 (by omega);have R1:=R0.below b1 (by omega);by_cases hb1:bitB bx xn xd=true
 · rw [hb1]
   obtain ⟨y0,y1,y2,-⟩:=Y1.six
   go_wp2_with fail
   clear y0 y1 y2;refine (refIsBit_any (bx:=cy) HY.out (HR.out _ g1).2.2.1 (HR.out _ g1).2.2.2).mono ?_;rintro e w2 ⟨rfl,b2⟩;have s2:=b2.size;have g2:Below w.heap.size w w2:=g1.trans (b2.mono g1.size);have X2:=X1.below b2 (by omega);have Y2:=Y1.below b2 (by omega);have R2:=R1.below b2 (by omega);by_cases hb2:bitB cy yn yd=true
   · rw [hb2]
     have HB:Hid ((bitB bx xn xd && bitB cy yn yd)=true):=by rw [hb1,hb2];rfl
     clear hb1 hb2;obtain ⟨-,x1,-⟩:=X2.six;obtain ⟨-,y1,-⟩:=Y2.six;obtain ⟨p,hp⟩:∃ p,decide (xn≠[])=p:=⟨_,rfl⟩;obtain ⟨q,hq⟩:∃ q,decide (yn≠[])=q:=⟨_,rfl⟩;have HO:Hid (op (decide (xn≠[])) (decide (yn≠[]))=op p q):=by rw [hp,hq];exact rfl
     have hx:decide (0<xn.length)=p:=by rw [← hp];cases xn <;> rfl
     have hy:decide (0<yn.length)=q:=by rw [← hq];cases yn <;> rfl
     clear hp hq
     cases p <;> cases q <;> simp only [decide_eq_true_eq,decide_eq_false_iff_not] at hx hy
     all_goals
      rcases HG.out with ⟨rfl,rfl⟩ | ⟨rfl,rfl⟩ | ⟨rfl,rfl⟩ | ⟨rfl,rfl⟩
      all_goals
       go_wp2_with fail
       go_quiet (fail)
       go_wp2_with fail
       refine (refBool01_any _ _).mono ?_;rintro e w3 ⟨b3q,b,ns,ds,z1,u1,z2,u2,HW,rfl,o1,o2⟩;have b3:Below w2.heap.size w2 w3:=(below_drewN' (Below.refl _ _) _).trans b3q;have s3:=b3.size;have g3:Below w.heap.size w w3:=g2.trans (b3.mono g2.size);have R3:=R2.below b3 (by omega);have Q1:=hidK o1.rd;have Q2:=hidK o2.rd;clear o1 o2;obtain ⟨r0,r1,r2,f0,f1,f2⟩:=R3.six;obtain ⟨y0,y1,y2⟩:=R3.put3 (.bool b) (.slice z1 ns.length u1) (.slice z2 ds.length u2);go_wp2
       refine bodyPost_ret (v:=.tuple #[.agg #[.bool b,.slice z1 ns.length u1,.slice z2 ds.length u2],.int .i64 0]) (by simp [results,Tryz.results41,go_sem,y0,y1,y2]) rfl ?_;rw [LogS,if_pos HB.out,HO.out];exact told_put (S:=NumS false (bitL _) [1]) (show NumS false (bitL _) [1] b ns ds 0 from ⟨rfl,HW.out⟩) g3 Q1.out Q2.out R3 (by omega)
   · rw [Bool.eq_false_iff.2 hb2]
     have HB:Hid ((bitB bx xn xd && bitB cy yn yd)=false):=by rw [Bool.eq_false_iff.2 hb2,Bool.and_false];exact rfl
     clear hb1 hb2;obtain ⟨r0,r1,r2,f0,f1,f2⟩:=R2.six;obtain ⟨y0,y1,y2⟩:=R2.put3 (.bool false) (.slice none 0 0) (.slice none 0 0);go_wp2
     refine bodyPost_ret (v:=.tuple #[.agg #[.bool false,.slice none 0 0,.slice none 0 0],.int .i64 3]) (by simp [results,Tryz.results41,go_sem,y0,y1,y2]) rfl ?_;rw [LogS,if_neg (by rw [HB.out];decide)];exact told_err 3 (Below.set3 g2 (by omega) _ _ _)
 · rw [Bool.eq_false_iff.2 hb1]
   have HB:Hid ((bitB bx xn xd && bitB cy yn yd)=false):=by rw [Bool.eq_false_iff.2 hb1];rfl
   clear hb1;obtain ⟨r0,r1,r2,f0,f1,f2⟩:=R1.six;obtain ⟨y0,y1,y2⟩:=R1.put3 (.bool false) (.slice none 0 0) (.slice none 0 0);go_wp2
   refine bodyPost_ret (v:=.tuple #[.agg #[.bool false,.slice none 0 0,.slice none 0 0],.int .i64 3]) (by simp [results,Tryz.results41,go_sem,y0,y1,y2]) rfl ?_;rw [LogS,if_neg (by rw [HB.out];decide)];exact told_err 3 (Below.set3 g1 (by omega) _ _ _)
end
end Go.Proofs.YtilbfkabfgnhpaaGreat
