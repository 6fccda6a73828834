/- scalar.ofOne: the functions of a number; which glyphs have one. -/
import Derived.Test.YtilbfkabfgnhpaaGreatKS4
set_option maxRecDepth 100000
set_option maxHeartbeats 16000000
set_option linter.unusedVariables false
set_option linter.unusedSimpArgs false
namespace Go.Proofs.YtilbfkabfgnhpaaGreat
open Go.RowKit
def tab1:List (Int×Value):=[(43,.func (.func 42) #[] #[]),(45,.func (.func 43) #[] #[]),(215,.func (.func 44) #[] #[]),(247,.func (.func 47) #[] #[]),(8968,.func (.func 48) #[] #[]),(8970,.func (.func 49) #[] #[]),(124,.func (.func 50) #[] #[]),(42,.func (.func 51) #[] #[]),(33,.func (.func 52) #[] #[]),(126,.func (.func 53) #[] #[])]
theorem ofOne_any (w:World):Calls Tryz.prog 10 #[] w fun e w'=>e=.returned (.map (some w.heap.size))∧MapIs w' w.heap.size tab1∧Below w.heap.size w w':=by
 have hmm:=@run_makeMap Tryz.prog;have u0:=MapIs.new w;have km:=below_alloc w (.map #[] 0);have sv:(w.alloc (.map #[] 0)).heap.size=w.heap.size+1:=by simp
 go_enter Tryz.func10,Tryz.ntmps10;generalize hV:w.alloc (.map #[] 0)=v0 at *;have p0:=Kp.refl w.heap.size v0;obtain ⟨v1,r1,u1,q1,t1⟩:=MapIs.put (P:=Tryz.prog) (mty:=39) (k:=43) (v:=.func (.func 42) #[] #[]) Tryz.underlying39 Tryz.underlying21 u0 (by simp);have p1:=p0.trans q1;obtain ⟨v2,r2,u2,q2,t2⟩:=MapIs.put (P:=Tryz.prog) (mty:=39) (k:=45) (v:=.func (.func 43) #[] #[]) Tryz.underlying39 Tryz.underlying21 u1 (by simp);have p2:=p1.trans q2;obtain ⟨v3,r3,u3,q3,t3⟩:=MapIs.put (P:=Tryz.prog) (mty:=39) (k:=215) (v:=.func (.func 44) #[] #[]) Tryz.underlying39 Tryz.underlying21 u2 (by simp);have p3:=p2.trans q3;obtain ⟨v4,r4,u4,q4,t4⟩:=MapIs.put (P:=Tryz.prog) (mty:=39) (k:=247) (v:=.func (.func 47) #[] #[]) Tryz.underlying39 Tryz.underlying21 u3 (by simp);have p4:=p3.trans q4;obtain ⟨v5,r5,u5,q5,t5⟩:=MapIs.put (P:=Tryz.prog) (mty:=39) (k:=8968) (v:=.func (.func 48) #[] #[]) Tryz.underlying39 Tryz.underlying21 u4 (by simp);have p5:=p4.trans q5;obtain ⟨v6,r6,u6,q6,t6⟩:=MapIs.put (P:=Tryz.prog) (mty:=39) (k:=8970) (v:=.func (.func 49) #[] #[]) Tryz.underlying39 Tryz.underlying21 u5 (by simp);have p6:=p5.trans q6;obtain ⟨v7,r7,u7,q7,t7⟩:=MapIs.put (P:=Tryz.prog) (mty:=39) (k:=124) (v:=.func (.func 50) #[] #[]) Tryz.underlying39 Tryz.underlying21 u6 (by simp);have p7:=p6.trans q7;obtain ⟨v8,r8,u8,q8,t8⟩:=MapIs.put (P:=Tryz.prog) (mty:=39) (k:=42) (v:=.func (.func 51) #[] #[]) Tryz.underlying39 Tryz.underlying21 u7 (by simp);have p8:=p7.trans q8;obtain ⟨v9,r9,u9,q9,t9⟩:=MapIs.put (P:=Tryz.prog) (mty:=39) (k:=33) (v:=.func (.func 52) #[] #[]) Tryz.underlying39 Tryz.underlying21 u8 (by simp);have p9:=p8.trans q9;obtain ⟨v10,r10,u10,q10,t10⟩:=MapIs.put (P:=Tryz.prog) (mty:=39) (k:=126) (v:=.func (.func 53) #[] #[]) Tryz.underlying39 Tryz.underlying21 u9 (by simp);have p10:=p9.trans q10;simp only [List.nil_append,List.cons_append] at u10
 go_wp2_with fail
 go_ret
 exact ⟨rfl,u10,km.trans (p10.below (Nat.le_refl _) (by omega))⟩
theorem hidK {p:Prop} (h:p):Hid p:=h
theorem zero_monad (w:World):(zeroValue 38).run Tryz.prog w=.ok .nilFunc w:=by kernel_rfl
theorem atKey_cases (g:Int):∀ (l:List (Int×Value)),(∀ p∈l,∃ fn x y,p.2=.func fn x y)→((l.map (·.1)).contains g=true∧∃ fn x y,atKey .nilFunc g l=.func fn x y)∨((l.map (·.1)).contains g=false∧atKey .nilFunc g l=.nilFunc)
 | [],_=>Or.inr ⟨rfl,rfl⟩
 | p :: l,h=>by
  by_cases e:p.1=g
  · refine Or.inl ⟨by simp [e],?_⟩
    rw [atKey,if_pos e];exact h p (by simp)
  · have e':(g==p.1)=false:=by rw [beq_eq_false_iff_ne];exact fun h=>e h.symm
    rw [atKey,if_neg e,List.map_cons,List.contains_cons,e',Bool.false_or];exact atKey_cases g l fun q hq=>h q (by simp [hq])
theorem tab1_cases (g:Int):(([43,45,215,247,8968,8970,124,42,33,126]:List Int).contains g=true∧∃ fn x y,atKey .nilFunc g tab1=.func fn x y)∨(([43,45,215,247,8968,8970,124,42,33,126]:List Int).contains g=false∧atKey .nilFunc g tab1=.nilFunc):=
 atKey_cases g tab1 (by intro p hp;simp only [tab1,List.mem_cons,List.not_mem_nil,or_false] at hp;rcases hp with rfl | rfl | rfl | rfl | rfl | rfl | rfl | rfl | rfl | rfl <;> exact ⟨_,_,_,rfl⟩)
theorem tab2_cases (b:Nat) (g:Int):(([43,45,215,247,8968,8970,124,42,33,60,8804,61,8805,62,8800,8743,8744,9074,9073]:List Int).contains g=true∧∃ fn x y,atKey .nilFunc g (tab2 b)=.func fn x y)∨(([43,45,215,247,8968,8970,124,42,33,60,8804,61,8805,62,8800,8743,8744,9074,9073]:List Int).contains g=false∧atKey .nilFunc g (tab2 b)=.nilFunc):=
 atKey_cases g (tab2 b) (by intro p hp;simp only [tab2,List.mem_cons,List.not_mem_nil,or_false] at hp;rcases hp with rfl | rfl | rfl | rfl | rfl | rfl | rfl | rfl | rfl | rfl | rfl | rfl | rfl | rfl | rfl | rfl | rfl | rfl | rfl <;> exact ⟨_,_,_,rfl⟩)
end Go.Proofs.YtilbfkabfgnhpaaGreat
