/- The document's Right, Depth and Cells. -/
import Derived.Test.YtimfnalpmmkndaaGreatDoorRM
set_option maxRecDepth 100000
set_option maxHeartbeats 6400000
set_option linter.unusedVariables false
set_option linter.unusedSimpArgs false
namespace Go.Proofs.YtimfnalpmmkndaaGreatDoor
open Go.RowKit
theorem rmeas_zero:RMeasOK 0:=by
 intro f D W x1 n1 y1 x2 n2 y2 t deep most hdeep hm0 hm1 hD h;obtain ⟨f,rfl⟩:∃ f',f=f'+1:=by
  cases f with
  | zero=>exact h.elim
  | succ f=>exact ⟨f,rfl⟩
 obtain rfl:=h.1.len;obtain rfl:=h.2.len;have bd1:=h.1.bounds;have H:Hid (ArV (f+1) D W (.slice x1 t.ns.length y1) (.slice x2 t.kids.length y2) t):=h;have HD:Hid (∀ g,D g→g<W.heap.size):=hD;have hdp:deep=17:=by omega
 subst hdp;clear h hD hdeep;have X:=boxA_new W #[.slice x1 t.ns.length y1,.slice x2 t.kids.length y2] 29;have g:=below_alloc W (.cells #[.slice x1 t.ns.length y1,.slice x2 t.kids.length y2] 29);have sv:(W.alloc (.cells #[.slice x1 t.ns.length y1,.slice x2 t.kids.length y2] 29)).heap.size=W.heap.size+1:=by simp
 have z0:=X.cell 0 rfl;have z1:=X.cell 1 rfl;go_enter Tryz.func103,Tryz.ntmps103
 go_wp2_with fail
 generalize hA:W.alloc (.cells #[.slice x1 t.ns.length y1,.slice x2 t.kids.length y2] 29)=v at *;clear hA;refine (refSize3_any (H.out.1.imp (fun _ h=>h) (Agree.of g HD.out)) (fun g hg=>by have:=HD.out g hg;omega)).mono ?_;rintro e w' ⟨rfl,hw⟩;obtain rfl:=hw.symm;generalize (sizeF t.ns).2=E at *;generalize (sizeF t.ns).1=N at *;by_cases he:E=0
 · have d1:(E != 0)=false:=by rw [bne_eq_false_iff_eq];exact he
   clear he;go_wp2
   go_ret3
   exact ⟨by rw [refF];rfl,g⟩
 · have d1:(E != 0)=true:=by rw [bne_iff_ne];exact he
   clear he;go_wp2
   go_ret3
   exact ⟨by rw [refF];rfl,g⟩
theorem rmeas_all:∀ L,L≤17→RMeasOK L
 | 0,_=>rmeas_zero
 | L+1,h=>rmeas_step (by omega) (rmeas_all L (by omega))
section
variable {D:Nat→Prop} {f:Nat} {W:World} {x1:Option Addr} {n1 y1:Nat} {x2:Option Addr} {n2 y2:Nat} {t:Tr}
end
end Go.Proofs.YtimfnalpmmkndaaGreatDoor
