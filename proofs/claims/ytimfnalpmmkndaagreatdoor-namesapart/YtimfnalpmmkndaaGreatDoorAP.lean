/- array.Int of any int; a scalar of a number as a tree. -/
import Derived.Test.YtimfnalpmmkndaaGreatDoorKZ
import Derived.Test.YtimfnalpmmkndaaGreatDoorTA
import Derived.Test.YtimfnalpmmkndaaGreatDoorAE
import Derived.Stop.RegionWithIn
import Derived.Test.YtimfnalpmmkndaaGreatDoorAN
import Derived.Test.YtimfnalpmmkndaaGreatDoorKX
import Derived.Test.YtimfnalpmmkndaaGreatDoorRK
set_option maxRecDepth 100000
set_option maxHeartbeats 6400000
set_option linter.unusedVariables false
set_option linter.unusedSimpArgs false
namespace Go.Proofs.YtimfnalpmmkndaaGreatDoor
variable {q:Int}
section
open Go.RowKit
theorem arrInt_any (w:World) (q:Int) (hq0:-9223372036854775808≤q) (hq1:q<9223372036854775808):Calls Tryz.prog 28 #[.int .i64 q] w fun e w'=>∃ b ns ds,Hid (WholeIs q b ns ds)∧ScalarAns w b ns ds e w':=by
 have R:=boxA_new w #[.slice none 0 0,.slice none 0 0] 29;have g:=below_alloc w (.cells #[.slice none 0 0,.slice none 0 0] 29);have s0:w.heap.size<(w.alloc (.cells #[.slice none 0 0,.slice none 0 0] 29)).heap.size:=by simp
 go_enter Tryz.func28,Tryz.ntmps28
 go_wp2_with fail
 generalize hA:w.alloc (.cells #[.slice none 0 0,.slice none 0 0] 29)=v at *;clear hA;refine (ofInt_any q hq0 hq1 _).mono ?_;rintro e w1 ⟨k1,bo,on,od,o1,o2,o3,o4,HO,rfl,oo,oe⟩
 go_wp2_with fail
 refine number_any.mono ?_;rintro e w2 ⟨rfl,k2⟩;have s1:=k1.size;have t2:Below v.heap.size v w2:=k1.trans (k2.mono s1);have p1:=oo.below k2 (Nat.le_refl _);have p2:=oe.below k2 (Nat.le_refl _)
 go_wp2_with fail
 refine scalar_any.mono ?_;rintro e w3 ⟨k,rfl,hk,hB,k3⟩;have s2:=t2.size;have t3:Below v.heap.size v w3:=t2.trans (k3.mono s2);have hN:NumAt v.heap.size w3 k bo on od:=⟨by omega,_,_,_,_,hB,p1.below k3 (Nat.le_refl _),p2.below k3 (Nat.le_refl _)⟩;have HN:Hid (NumAt v.heap.size w3 k bo on od):=hN;clear hN;have R3:=R.below t3 s0;have q0:=R3.cell 0 rfl;have q1:=R3.cell 1 rfl;have f0:=R3.frozen 0;have f1:=R3.frozen 1;go_wp2
 have R4:=R3.set2 (.slice none 0 0) (.slice (some ⟨k,0,none⟩) 1 1);have r0:=R4.cell 0 rfl;have r1:=R4.cell 1 rfl;refine bodyPost_ret (v:=.agg #[.slice none 0 0,.slice (some ⟨k,0,none⟩) 1 1]) (by simp [results,Tryz.results28,go_sem,r0,r1]) rfl ?_;exact ⟨bo,on,od,HO,k,rfl,(HN.out.set2 s0 _ _).mono (by omega),Below.set2 (g.trans (t3.mono (by omega))) (Nat.le_refl _) _ _⟩
theorem numAt_arv {base k:Nat} {w:World} {b:Bool} {ns ds:List Int} (h:NumAt base w k b ns ds):ArV 1 (Fr base w.heap.size) w (.slice none 0 0) (.slice (some ⟨k,0,none⟩) 1 1) (arrT [] [numT b ns ds]):=by
 have hlt:=h.lt;obtain ⟨hk,x1,y1,x2,y2,hB,o1,o2⟩:=h;refine ⟨⟨(fun x h=>by cases h),none,0,rfl,Nat.le_refl _,by omega,fun _=>rfl,Or.inl rfl⟩,some ⟨k,0,none⟩,1,rfl,Nat.le_refl _,by omega,(fun h=>by cases h),Or.inr ⟨k,0,rfl,⟨hk,hlt⟩,fun j hj => ?_⟩⟩;have hj:j<1:=hj;obtain rfl:j=0:=by omega
 obtain ⟨e0,e1,e2,e3,e4,e5⟩:=hB.num;exact ⟨x1,y1,x2,y2,none,0,⟨e0,e1,e2,e3,e4,e5⟩,RdL.of_own o1,RdL.of_own o2,none,0,rfl,Nat.le_refl _,by omega,fun _=>rfl,Or.inl rfl⟩
end
section
open Go.RowKit Go.Shelf
attribute [local go_sem] Oper.semAt_some
end
section
open Go.RowKit
section
variable {w:World} {f:Nat} {D:Nat→Prop} {a2:Option Addr} {c2 N Bn Bs:Nat} {l l':List Tr}
end
end
section
open Go.RowKit Go.Shelf
attribute [local go_sem] Oper.semAt_some
end
section
open Go.RowKit Go.Shelf
attribute [local go_sem] Oper.semAt_some
end
section
open Go.RowKit
section
variable {w:World} {f:Nat} {D:Nat→Prop} {x1 a2:Option Addr} {y1 c2 N:Nat} {sh:List Int} {l:List Tr}
end
end
section
open Go.RowKit Go.Shelf
attribute [local go_sem] Oper.semAt_some
end
section
open Go.RowKit Go.Shelf
attribute [local go_sem] Oper.semAt_some
def limbs2 (n:Int):List Int:=if n=0 then [] else if n<4294967296 then [n] else [n % 4294967296,n/4294967296]
theorem limbs2_ok {n:Int} (h0:0≤n) (h1:n≤9223372036854775808):can (limbs2 n)∧val (limbs2 n)=n:=by
 unfold limbs2;by_cases hz:n=0
 · rw [if_pos hz];exact ⟨⟨lim_nil,Or.inl rfl⟩,by rw [hz];rfl⟩
 rw [if_neg hz];by_cases hs:n<4294967296
 · rw [if_pos hs]
   refine ⟨⟨?_,Or.inr (by simpa using hz)⟩,by simp [val]⟩;intro x hx;simp at hx;subst hx;omega
 · rw [if_neg hs]
   refine ⟨⟨?_,Or.inr ?_⟩,?_⟩
   · intro x hx
     simp at hx;rcases hx with rfl | rfl <;> omega
   · simp;omega
   · simp [val];omega
def wholeT (q:Int):Tr:=numT (decide (q<0)) (limbs2 (if q<0 then -q else q)) [1]
theorem wholeIs_eq {b:Bool} {ns ds:List Int} (h0:-9223372036854775808≤q) (h1:q<9223372036854775808) (h:WholeIs q b ns ds):numT b ns ds=wholeT q:=by
 obtain ⟨rfl,hc,hv,_,rfl⟩:=h;unfold wholeT;have hl:=limbs2_ok (n:=if q<0 then -q else q) (by split <;> omega) (by split <;> omega);rw [can_inj hc hl.1 (by rw [hv,hl.2])]
end
section
open Go.RowKit
section
variable {w:World} {b c:Bool} {a1 a2 a3 a4:Option Addr} {c1 c2 c3 c4:Nat} {ns ds ms es:List Int} {j k ty:Nat} {x1 x2:Option Addr} {n1 n2 m1 m2:Nat}
end
section
variable {w:World} {b:Bool} {a1 a2:Option Addr} {c1 c2:Nat} {ns ds:List Int}
end
section
variable {w:World} {b:Bool} {a1 a2:Option Addr} {c1 c2:Nat} {ns ds:List Int}
end
section
variable {D:Nat→Prop} {f:Nat} {W:World} {x1:Option Addr} {n1 y1:Nat} {x2:Option Addr} {n2 y2:Nat} {t:Tr}
variable {a1 a2 a3:Option Addr} {c1 c2 c3:Nat} {P:Value→Value→Tr→Prop}
end
theorem limbs2_len (n:Int):(limbs2 n).length≤2:=by
 unfold limbs2
 split
 · simp
 · split <;> simp
theorem wholeT_is (h0:-9223372036854775808≤q) (h1:q<9223372036854775808):WholeIs q (wholeT q).b (wholeT q).ns (wholeT q).ds:=by
 have hl:=limbs2_ok (n:=if q<0 then -q else q) (by split <;> omega) (by split <;> omega);exact ⟨rfl,hl.1,hl.2,limbs2_len _,rfl⟩
theorem whole_meas (M:Tr→Option (Int×Int)) (h0:-9223372036854775808≤q) (h1:q<9223372036854775808):measI M (wholeT q)=some (0,0):=measI_num rfl ⟨(wholeT_is h0 h1).right,rfl,rfl⟩
theorem measL_zero {I:Tr→Option (Int×Int)}:∀ (l:List Tr) (c:Int),(∀ t∈l,I t=some (0,0))→c≤16384→measL I l (1,c)=some (1,c)
 | [],c,_,_=>rfl
 | t :: r,c,h,hc=>by
  rw [measL,h t (by simp)];simp only [Int.add_zero];rw [if_neg (by omega)];exact measL_zero r c (fun x hx=>h x (by simp [hx])) hc
theorem meas_scalar {L:Nat} {x:Tr} (hk:x.k=1∨x.k=2) (h:measI (measF L) x=some (0,0)):measF (L+1) (arrT [] [x])=some (0,1):=by
 have e0:sizeF ([]:List Int)=(1,0):=by decide
 have e:sizeF (arrT [] [x]).ns=(1,0):=e0;rw [measF_succ ⟨by rw [e],by rw [e];rfl⟩];rw [measL_zero _ _ (by intro t ht;simp [arrT,Tr.kids] at ht;subst ht;exact h) (by show ((1:Nat):Int)≤16384;omega)];unfold finM simpB;have e2:((arrT [] [x]).kids.getD 0 tr0)=x:=rfl;rw [e2];rcases hk with hk | hk <;> simp [hk,arrT,Tr.ns,Tr.kids]
section
variable {D:Nat→Prop} {f:Nat} {W:World} {x1:Option Addr} {n1 y1:Nat} {x2:Option Addr} {n2 y2:Nat} {t:Tr}
end
end
end Go.Proofs.YtimfnalpmmkndaaGreatDoor
