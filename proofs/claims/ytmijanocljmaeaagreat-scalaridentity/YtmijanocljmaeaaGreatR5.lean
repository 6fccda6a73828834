/- ref03.Items of a right array. -/
import Derived.Test.YtmijanocljmaeaaGreatR4
import Derived.Test.YtmijanocljmaeaaGreatK7
import Derived.Test.YtmijanocljmaeaaGreatR1
import Derived.Test.YtmijanocljmaeaaGreatK12
set_option maxRecDepth 100000
set_option maxHeartbeats 6400000
set_option linter.unusedVariables false
set_option linter.unusedSimpArgs false
namespace Go.Proofs.YtmijanocljmaeaaGreat
open Go.RowKit
section
variable {D:Nat→Prop} {f:Nat} {W:World} {x1:Option Addr} {n1 y1:Nat} {x2:Option Addr} {n2 y2:Nat} {t:Tr}
theorem refItems3_any (hD:∀ g,D g→g<W.heap.size) (h:ArV f D W (.slice x1 n1 y1) (.slice x2 n2 y2) t) (hS:smF f t) (hR:(measF 16 t).isSome=true) :
    Calls Tryz.prog 14 #[.agg #[.slice x1 n1 y1,.slice x2 n2 y2]] W fun e w'=>(((sizeF t.ns).1=0∧e=.returned (.slice none 0 0))∨(¬ (sizeF t.ns).1=0∧∃ z1 m1 u1 z2 m2 u2,e=.returned (.slice z2 m2 u2)∧ArV f (Fr W.heap.size w'.heap.size) w' (.slice z1 m1 u1) (.slice z2 m2 u2) t))∧Below W.heap.size W w':=by
 obtain ⟨f,rfl⟩:∃ g,f=g+1:=by
  cases f with
  | zero=>exact h.elim
  | succ g=>exact ⟨g,rfl⟩
 obtain rfl:=h.1.len;have k0:=below_alloc W (.cells #[.slice x1 t.ns.length y1,.slice x2 n2 y2] 25);have X0:=boxA_new W #[.slice x1 t.ns.length y1,.slice x2 n2 y2] 25;have s0:W.heap.size<(W.alloc (.cells #[.slice x1 t.ns.length y1,.slice x2 n2 y2] 25)).heap.size:=by simp
 have z0:=X0.cell 0 rfl;have z1:=X0.cell 1 rfl;have H:Hid (ArV (f+1) D W (.slice x1 t.ns.length y1) (.slice x2 n2 y2) t):=h;have HD:Hid (∀ g,D g→g<W.heap.size):=hD;have HSM:Hid (smF (f+1) t):=hS;obtain ⟨L',hL',m1,m2,m3,m4,m5⟩:=measF_some hR;have HR:Hid ((measF 16 t).isSome=true):=hR;have HZ:Hid ((sizeF t.ns).2=0):=m2;clear h hD hR hS m1 m2 m3 m4 m5 hL';go_enter Tryz.func14,Tryz.ntmps14
 go_wp2_with fail
 generalize hA:W.alloc (.cells #[.slice x1 t.ns.length y1,.slice x2 n2 y2] 25)=v at *;clear hA;refine (refSize3_any ((H.out.agree (Agree.of k0 HD.out)).1) (fun g hg=>by have:=HD.out g hg;omega)).mono ?_;rintro e w1 ⟨rfl,hw⟩;obtain rfl:=hw.symm;rw [HZ.out];by_cases hn:(sizeF t.ns).1=0
 · have HN0:Hid ((sizeF t.ns).1=0):=hn
   have e0:((sizeF t.ns).1==0)=true:=by rw [beq_iff_eq];exact hn
   clear hn;go_wp2
   go_ret
   exact ⟨Or.inl ⟨HN0.out,rfl⟩,k0⟩
 have e0:((sizeF t.ns).1==0)=false:=by rw [beq_eq_false_iff_ne];exact hn
 have HN0:Hid (¬ (sizeF t.ns).1=0):=hn;clear hn
 go_wp2_with fail
 refine (refRight3_any (fun g hg=>by have:=HD.out g hg;omega) (H.out.agree (Agree.of k0 HD.out))).mono ?_;rintro e w1 ⟨rfl,q1⟩;rw [HR.out];have X1:=X0.below q1 s0;have l1:=X1.lt;have k1:Below W.heap.size W w1:=k0.trans (q1.mono (by omega));have v0:=X1.cell 0 rfl;have v1:=X1.cell 1 rfl;clear z0 z1
 go_wp2_with fail
 refine (refCopy3_any (H.out.agree (Agree.of k1 HD.out)) (fun g hg=>by have:=HD.out g hg;omega) HSM.out).mono ?_;rintro e w2 ⟨z1,m1,u1,z2,m2,u2,rfl,hv,q2⟩;have HV:Hid (ArV (f+1) (Fr w1.heap.size w2.heap.size) w2 (.slice z1 m1 u1) (.slice z2 m2 u2) t):=hv;have k2:Below W.heap.size W w2:=k1.trans (q2.mono (by omega));have hfl:(Instr.field 25 (.agg #[.slice z1 m1 u1,.slice z2 m2 u2]) 1).run Tryz.prog w2=.ok (.slice z2 m2 u2) w2:=by kernel_rfl
 clear hv;go_wp2
 go_ret
 exact ⟨Or.inr ⟨HN0.out,_,_,_,_,_,_,rfl,HV.out.mono (fun g hg=>⟨by have:=hg.1;omega,hg.2⟩)⟩,k2⟩
end
end Go.Proofs.YtmijanocljmaeaaGreat
