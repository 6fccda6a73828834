/- array.Right, Depth, Cells, IsSimple of any array. -/
import Derived.Test.YtheaeggecpfcbaaGreatK9
set_option maxRecDepth 100000
set_option maxHeartbeats 6400000
set_option linter.unusedVariables false
set_option linter.unusedSimpArgs false
namespace Go.Proofs.YtheaeggecpfcbaaGreat
open Go.RowKit
theorem meas_zero:MeasOK 0:=by
 intro f D W x1 n1 y1 x2 n2 y2 t hD h;obtain ⟨f,rfl⟩:∃ f',f=f'+1:=by
  cases f with
  | zero=>exact h.elim
  | succ f=>exact ⟨f,rfl⟩
 obtain rfl:=h.1.len;obtain rfl:=h.2.len;have bd1:=h.1.bounds;have bd2:=h.2.bounds;have H:Hid (ArV (f+1) D W (.slice x1 t.ns.length y1) (.slice x2 t.kids.length y2) t):=h;have HD:Hid (∀ g,D g→g<W.heap.size):=hD;clear h hD;have X0:=boxA_new W #[.slice x1 t.ns.length y1,.slice x2 t.kids.length y2] 25;have k0:=below_alloc W (.cells #[.slice x1 t.ns.length y1,.slice x2 t.kids.length y2] 25);have k1:=below_alloc (W.alloc (.cells #[.slice x1 t.ns.length y1,.slice x2 t.kids.length y2] 25)) (.cells #[.int .i64 0,.int .i64 0] 55);have R:=boxA_new (W.alloc (.cells #[.slice x1 t.ns.length y1,.slice x2 t.kids.length y2] 25)) #[.int .i64 0,.int .i64 0] 55;rw [World.size_alloc] at R;have X:=X0.below k1 (by simp);have g:Below W.heap.size W _:=k0.trans (k1.mono (by simp));have sv:((W.alloc (.cells #[.slice x1 t.ns.length y1,.slice x2 t.kids.length y2] 25)).alloc (.cells #[.int .i64 0,.int .i64 0] 55)).heap.size=W.heap.size+1+1:=by simp
 have z0:=X.cell 0 rfl;have z1:=X.cell 1 rfl;go_enter Tryz.func38,Tryz.ntmps38
 go_wp2_with fail
 generalize hA:(W.alloc (.cells #[.slice x1 t.ns.length y1,.slice x2 t.kids.length y2] 25)).alloc (.cells #[.int .i64 0,.int .i64 0] 55)=v at *;clear hA k0 k1 X0;refine (arrSize_any (H.out.1.imp (fun _ h=>h) (Agree.of g HD.out)) (fun g hg=>by have:=HD.out g hg;omega)).mono ?_;rintro e w' ⟨rfl,hw⟩;obtain rfl:=hw.symm;have hsi:=sizeF_in t.ns;have R0:=R.cell 0 rfl;have R1:=R.cell 1 rfl;have Rf0:=R.frozen 0;have Rf1:=R.frozen 1;generalize (sizeF t.ns).2=E at *;generalize (sizeF t.ns).1=N at *;by_cases he:E=0
 · have d1:(E != 0)=false:=by rw [bne_eq_false_iff_eq];exact he
   clear he;by_cases hn:(t.kids.length:Int)=max N 1
   · have d2:((t.kids.length:Int) != max N 1)=false:=by rw [bne_eq_false_iff_eq];exact hn
     clear hn;go_wp2
     have Rd2:=R.set2 (.int .i64 0) (.int .i64 0);have r0:=Rd2.cell 0 rfl;have r1:=Rd2.cell 1 rfl;refine bodyPost_ret (v:=.tuple #[.agg #[.int .i64 0,.int .i64 0],.bool false]) (by simp [results,Tryz.results38,go_sem,r0,r1]) rfl ?_;exact ⟨by rw [measF];rfl,Below.set2 g (by omega) _ _⟩
   · have d2:((t.kids.length:Int) != max N 1)=true:=by rw [bne_iff_ne];exact hn
     clear hn;go_wp2
     have Rd2:=R.set2 (.int .i64 0) (.int .i64 0);have r0:=Rd2.cell 0 rfl;have r1:=Rd2.cell 1 rfl;refine bodyPost_ret (v:=.tuple #[.agg #[.int .i64 0,.int .i64 0],.bool false]) (by simp [results,Tryz.results38,go_sem,r0,r1]) rfl ?_;exact ⟨by rw [measF];rfl,Below.set2 g (by omega) _ _⟩
 · have d1:(E != 0)=true:=by rw [bne_iff_ne];exact he
   clear he;go_wp2
   have Rd2:=R.set2 (.int .i64 0) (.int .i64 0);have r0:=Rd2.cell 0 rfl;have r1:=Rd2.cell 1 rfl;refine bodyPost_ret (v:=.tuple #[.agg #[.int .i64 0,.int .i64 0],.bool false]) (by simp [results,Tryz.results38,go_sem,r0,r1]) rfl ?_;exact ⟨by rw [measF];rfl,Below.set2 g (by omega) _ _⟩
theorem meas_all:∀ L,L≤1000→MeasOK L
 | 0,_=>meas_zero
 | L+1,h=>meas_step (by omega) (meas_all L (by omega))
section
variable {D:Nat→Prop} {f:Nat} {W:World} {x1:Option Addr} {n1 y1:Nat} {x2:Option Addr} {n2 y2:Nat} {t:Tr}
theorem right3_any (hD:∀ g,D g→g<W.heap.size) (h:ArV f D W (.slice x1 n1 y1) (.slice x2 n2 y2) t):Calls Tryz.prog 15 #[.agg #[.slice x1 n1 y1,.slice x2 n2 y2]] W fun e w'=>e=.returned (.bool (measF 16 t).isSome)∧Below W.heap.size W w':=by
 have k0:=below_alloc W (.cells #[.slice x1 n1 y1,.slice x2 n2 y2] 25);have X0:=boxA_new W #[.slice x1 n1 y1,.slice x2 n2 y2] 25;have s0:W.heap.size<(W.alloc (.cells #[.slice x1 n1 y1,.slice x2 n2 y2] 25)).heap.size:=by simp
 have z0:=X0.cell 0 rfl;have z1:=X0.cell 1 rfl;have hm:=meas_all 16 (by omega) f D _ x1 n1 y1 x2 n2 y2 t (fun g hg=>by have:=hD g hg;omega) (h.agree (Agree.of k0 hD));rw [show ((16:Nat):Int)=16 from rfl] at hm;go_enter Tryz.func15,Tryz.ntmps15
 go_wp2_with fail
 clear z0 z1 X0;generalize hA:W.alloc (.cells #[.slice x1 n1 y1,.slice x2 n2 y2] 25)=w0 at *;clear hA;refine hm.mono ?_;rintro e w' ⟨rfl,k⟩;unfold mEnd;generalize hO1:((measF 16 t).getD (0,0)).1=A1 at *;generalize hO2:((measF 16 t).getD (0,0)).2=A2 at *;generalize hO3:(measF 16 t).isSome=A3 at *;have HO:Hid ((measF 16 t).isSome=A3):=hO3;clear hO1 hO2 hO3 hm;have kp:=below_alloc w' (.cells #[.int .i64 A1,.int .i64 A2] 55);have sk:=k.size;go_wp2
 go_ret
 exact ⟨by rw [HO.out];rfl,(by first | exact k0.trans (k.mono (by omega)) | exact k0.trans ((k.trans (kp.mono sk)).mono (by omega)))⟩
end
end Go.Proofs.YtheaeggecpfcbaaGreat
