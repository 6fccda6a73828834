/- The document's Right, Depth and Cells. -/
import Derived.Test.YtheaeggecpfcbaaGreatR2
import Derived.Test.YtheaeggecpfcbaaGreatR3
set_option maxRecDepth 100000
set_option maxHeartbeats 6400000
set_option linter.unusedVariables false
set_option linter.unusedSimpArgs false
namespace Go.Proofs.YtheaeggecpfcbaaGreat
open Go.RowKit
theorem rmeas_zero:RMeasOK 0:=by
 intro f D W x1 n1 y1 x2 n2 y2 t deep most hdeep hm0 hm1 hD h;obtain ⟨f,rfl⟩:∃ f',f=f'+1:=by
  cases f with
  | zero=>exact h.elim
  | succ f=>exact ⟨f,rfl⟩
 obtain rfl:=h.1.len;obtain rfl:=h.2.len;have bd1:=h.1.bounds;have H:Hid (ArV (f+1) D W (.slice x1 t.ns.length y1) (.slice x2 t.kids.length y2) t):=h;have HD:Hid (∀ g,D g→g<W.heap.size):=hD;have hdp:deep=17:=by omega
 subst hdp;clear h hD hdeep;have X:=boxA_new W #[.slice x1 t.ns.length y1,.slice x2 t.kids.length y2] 25;have g:=below_alloc W (.cells #[.slice x1 t.ns.length y1,.slice x2 t.kids.length y2] 25);have sv:(W.alloc (.cells #[.slice x1 t.ns.length y1,.slice x2 t.kids.length y2] 25)).heap.size=W.heap.size+1:=by simp
 have z0:=X.cell 0 rfl;have z1:=X.cell 1 rfl;go_enter Tryz.func39,Tryz.ntmps39
 go_wp2_with fail
 generalize hA:W.alloc (.cells #[.slice x1 t.ns.length y1,.slice x2 t.kids.length y2] 25)=v at *;clear hA;refine (refSize3_any (H.out.1.imp (fun _ h=>h) (Agree.of g HD.out)) (fun g hg=>by have:=HD.out g hg;omega)).mono ?_;rintro e w' ⟨rfl,hw⟩;obtain rfl:=hw.symm;generalize (sizeF t.ns).2=E at *;generalize (sizeF t.ns).1=N at *;by_cases he:E=0
 · have d1:(E != 0)=false:=by rw [bne_eq_false_iff_eq];exact he
   clear he;go_wp2
   go_ret3
   exact ⟨by rw [refF];rfl,g⟩
 · have d1:(E != 0)=true:=by rw [bne_iff_ne];exact he
   clear he;go_wp2
   go_ret3
   exact ⟨by rw [refF];rfl,g⟩
theorem rmeas_all:∀ L,L≤17→RMeasOK L
 | 0,_=>rmeas_zero
 | L+1,h=>rmeas_step (by omega) (rmeas_all L (by omega))
section
variable {D:Nat→Prop} {f:Nat} {W:World} {x1:Option Addr} {n1 y1:Nat} {x2:Option Addr} {n2 y2:Nat} {t:Tr}
theorem refRight3_any (hD:∀ g,D g→g<W.heap.size) (h:ArV f D W (.slice x1 n1 y1) (.slice x2 n2 y2) t):Calls Tryz.prog 16 #[.agg #[.slice x1 n1 y1,.slice x2 n2 y2]] W fun e w'=>e=.returned (.bool (measF 16 t).isSome)∧Below W.heap.size W w':=by
 have k0:=below_alloc W (.cells #[.slice x1 n1 y1,.slice x2 n2 y2] 25);have X0:=boxA_new W #[.slice x1 n1 y1,.slice x2 n2 y2] 25;have s0:W.heap.size<(W.alloc (.cells #[.slice x1 n1 y1,.slice x2 n2 y2] 25)).heap.size:=by simp
 have z0:=X0.cell 0 rfl;have z1:=X0.cell 1 rfl;have hm:=rmeas_all 17 (by omega) f D _ x1 n1 y1 x2 n2 y2 t 0 16384 (by omega) (by omega) (by omega) (fun g hg=>by have:=hD g hg;omega) (h.agree (Agree.of k0 hD));have HB:Hid (measF 16 t=match refF 17 t 16384 with | none=>none | some p=>if p.1≤16 then some p else none):=by unfold Hid;rw [both_meas t];cases refF 17 t 16384 <;> rfl
 go_enter Tryz.func16,Tryz.ntmps16
 go_wp2_with fail
 clear z0 z1 X0;generalize hA:W.alloc (.cells #[.slice x1 n1 y1,.slice x2 n2 y2] 25)=w0 at *;clear hA;refine hm.mono ?_;rintro e w' ⟨rfl,k⟩;clear hm
 cases hr:refF 17 t 16384 with
 | none=>
  have HF:Hid (measF 16 t=none):=by unfold Hid;rw [HB.out,hr]
  clear hr;unfold rEnd;dsimp only [Option.getD_none,Option.isSome_none];go_wp2
  go_ret
  exact ⟨by rw [HF.out];rfl,k0.trans (k.mono (by omega))⟩
 | some p=>
  obtain ⟨d,c⟩:=p;unfold rEnd;dsimp only [Option.getD_some,Option.isSome_some];by_cases hd:d≤16
  · have HF:Hid (measF 16 t=some (d,c)):=by unfold Hid;rw [HB.out,hr];simp only;rw [if_pos hd]
    clear hr;go_wp2
    go_ret
    exact ⟨by rw [HF.out];rfl,k0.trans (k.mono (by omega))⟩
  · have HF:Hid (measF 16 t=none):=by unfold Hid;rw [HB.out,hr];simp only;rw [if_neg hd]
    clear hr;go_wp2
    go_ret
    exact ⟨by rw [HF.out];rfl,k0.trans (k.mono (by omega))⟩
end
end Go.Proofs.YtheaeggecpfcbaaGreat
