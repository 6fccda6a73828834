/- slices.Backward of a row of frames: what its iterator tells. -/
import Derived.Test.YtimfnalpmmkndaaGreatDoorKX
import Derived.Test.YtimfnalpmmkndaaGreatDoorSA
import Derived.OwnWalkIn
import Derived.TacticsInMore
import Derived.LoopNIn
import Derived.LoopIn
import Derived.Stop.RegionWithIn
import Derived.Deep.RegionHeld3
set_option maxRecDepth 100000
set_option maxHeartbeats 6400000
set_option linter.unusedVariables false
set_option linter.unusedSimpArgs false
namespace Go.Proofs.YtimfnalpmmkndaaGreatDoor
variable {n₀ m m' l:Nat} {A B C w:World} {Ex:Nat→Prop} {P:Program} {f:FuncId} {tmps:Array Value} {assign body:Code}
section
open Go.RowKit Go.Shelf
attribute [local go_sem] Oper.semAt_some
structure FRep where
 la:Option Addr
 ln:Nat
 lc:Nat
 mb:Option Nat
def fr0:FRep:=⟨none,0,0,none⟩
structure KeepF (n₀ Bn:Nat) (W W':World):Prop where
 below:Below n₀ W W'
 box:W'.heap[Bn]? = W.heap[Bn]?
theorem KeepF.trans {Bn:Nat} (h:KeepF n₀ Bn A B) (k:KeepF n₀ Bn B C):KeepF n₀ Bn A C:=⟨h.below.trans k.below,k.box.trans h.box⟩
structure KeepE (n₀:Nat) (Ex:Nat→Prop) (W W':World):Prop where
 below:Below n₀ W W'
 cells:∀ g cs t fr,n₀≤g→¬ Ex g→W.heap[g]? = some (.cells cs t fr)→W'.heap[g]? = some (.cells cs t fr)
theorem KeepE.refl (n₀:Nat) (Ex:Nat→Prop) (W:World):KeepE n₀ Ex W W:=⟨Below.refl _ _,fun _ _ _ _ _ _ h=>h⟩
theorem KeepE.trans (h:KeepE n₀ Ex A B) (k:KeepE n₀ Ex B C):KeepE n₀ Ex A C:=⟨h.below.trans k.below,fun g cs t fr h1 h2 h3=>k.cells g cs t fr h1 h2 (h.cells g cs t fr h1 h2 h3)⟩
theorem KeepE.box {g ty:Nat} {xs:Array Value} (h:KeepE n₀ Ex A B) (hb:BoxA A g ty xs) (h1:n₀≤g) (h2:¬ Ex g):BoxA B g ty xs:=h.cells g _ _ _ h1 h2 hb
theorem KeepE.grown {row:Option Nat} (h:KeepE n₀ Ex A B) (hg:B.grownBy C row) (hn:n₀≤B.heap.size) (hr:∀ r,row=some r→n₀≤r∧∃ o:Obj,B.heap[r]? = some o∧o.isCells=false):KeepE n₀ Ex A C:=
 ⟨h.below.grown hg hn (fun k e=>(hr k e).1),fun g cs t fr h1 h2 h3=>by
  have hB:=h.cells g cs t fr h1 h2 h3;rw [hg.block g (lt_of_block hB) (fun e=>by
   obtain ⟨_,o,ho,hc⟩:=hr g e.symm;rw [hB] at ho
   cases ho
   cases hc)]
  exact hB⟩
theorem KeepE.put (W:World) (l:Nat) (o o':Obj) (hl:n₀≤l) (ho:W.heap[l]? = some o) (hc:o.isCells=false):KeepE n₀ Ex W (W.putObj l o'):=
 ⟨⟨rfl,rfl,rfl,by simp [World.putObj],fun g hg=>World.putObj_heap_other (by omega)⟩,fun g cs t fr h1 h2 h3=>by
  rw [World.putObj_heap_other (fun e=>by
   subst e;rw [h3] at ho
   cases ho
   cases hc)]
  exact h3⟩
def UpIs (n₀:Nat) (w:World) (a:Option Addr) (cap:Nat) (rs:List FRep):Prop:=rs.length≤cap∧cap≤9223372036854775807∧(rs=[]∨∃ ub,a=some ⟨ub,0,none⟩∧ub<n₀∧∀ i,i<rs.length→w.cell? ⟨ub,i*2,none⟩=some (.slice (rs.getD i fr0).la (rs.getD i fr0).ln (rs.getD i fr0).lc)∧w.cell? ⟨ub,i*2+1,none⟩=some (.map (rs.getD i fr0).mb))
theorem UpIs.below {C:Nat} {w':World} {a:Option Addr} {cap:Nat} {rs:List FRep} (h:UpIs n₀ w a cap rs) (k:Below C w w') (hC:n₀≤C):UpIs n₀ w' a cap rs:=by
 obtain ⟨h1,h2,h3⟩:=h;refine ⟨h1,h2,?_⟩;rcases h3 with h3 | ⟨ub,h3,h4,h5⟩
 · exact Or.inl h3
 · exact Or.inr ⟨ub,h3,h4,fun i hi=>⟨by rw [k.cell (p:=⟨ub,i*2,none⟩) (by show ub<C;omega)];exact (h5 i hi).1,by rw [k.cell (p:=⟨ub,i*2+1,none⟩) (by show ub<C;omega)];exact (h5 i hi).2⟩⟩
def encB (x:Nat×FRep):Array Value:=#[.int .i64 x.1,.agg #[.slice x.2.la x.2.ln x.2.lc,.map x.2.mb]]
def backF (rs:List FRep):List (Nat×FRep):=(List.range rs.length).reverse.map (fun i=>(i,rs.getD i fr0))
theorem backF_len (rs:List FRep):(backF rs).length=rs.length:=by simp [backF]
theorem backF_at {rs:List FRep} {k:Nat} (hk:k<rs.length):(backF rs)[k]? = some (rs.length - 1 - k,rs.getD (rs.length - 1 - k) fr0):=by
 unfold backF;rw [List.getElem?_map,List.getElem?_reverse (by simpa using hk),List.length_range,List.getElem?_range (by omega)];rfl
theorem backF_step {rs:List FRep} {j:Nat} (hj:j<rs.length):(backF rs).take (rs.length - (j+1))++[(j,rs.getD j fr0)]=(backF rs).take (rs.length - j):=by
 have h:=backF_at (rs:=rs) (k:=rs.length - (j+1)) (by omega);rw [show rs.length - 1 - (rs.length - (j+1))=j by omega] at h;rw [show rs.length - j=rs.length - (j+1)+1 by omega,List.take_add_one,h];rfl
theorem backFr_pays {rs:List FRep} {a:Option Addr} {cap Bn:Nat} (n:Nat) (hn:2≤n) (hU:UpIs n₀ w a cap rs) (hn₀:n₀≤Bn) (hBn:BoxA w Bn 75 #[.slice a rs.length cap]) {Kp:World→World→Prop} (hKp:∀ {A B:World},BoxA A Bn 75 #[.slice a rs.length cap]→Kp A B→KeepF n₀ Bn A B) :
    PaysX Fence.wide n Tryz.prog 150 #[.pointer (some ⟨Bn,0,none⟩)] encB Kp (fun pre x _=>∃ r,pre++x :: r=backF rs) (fun xs _=>xs=backF rs) (fun xs=>xs <+: backF rs) w:=by
 intro l J Jx W hW hJ hJx hY hJ0;have hBw:=hBn.lt;have hBW:=hBn.below hW hBw;have HU:Hid (UpIs n₀ W a cap rs):=hU.below hW (by omega);have hk:=hU.1;have hcap:=hU.2.1;have hsW:=hW.size;clear hU;have c0:=hBW.cell 0 rfl;have hwl:IntKind.i64.wrap ((rs.length:Int) - 1)=(rs.length:Int) - 1:=by rw [IntKind.wrap_i64];omega
 refine callsIn_of_wp Tryz.func150 rfl trivial ?_ rfl;simp only [Tryz.ntmps150,List.size_toArray,List.length_cons,List.length_nil,Nat.reduceAdd,Nat.reduceSub,Array.replicate_succ,Array.replicate_zero,List.push_toArray,List.append_toArray,List.nil_append,List.cons_append]
 gi_wp2
 clear c0
 gi_loopw [3] (fun iv wr=>∃ (z:Int) (k:Nat),iv=.int .i64 z∧Hid (z=(k:Int) - 1)∧k≤rs.length∧J ((backF rs).take (rs.length - k)) wr∧KeepF n₀ Bn W wr) (fun iv _=>(intOf iv+1).toNat)
 case atStart=>exact ⟨(rs.length:Int) - 1,rs.length,rfl,rfl,Nat.le_refl _,by rw [Nat.sub_self,List.take_zero];exact hJ0,⟨Below.refl _ _,rfl⟩⟩
 case round=>
  obtain ⟨z,k,rfl,HZ,hkl,hJs,hK⟩:=hrel;have hBr:BoxA wr Bn 75 #[.slice a rs.length cap]:=by unfold BoxA;rw [hK.box];exact hBW
  have c0:=hBr.cell 0 rfl
  cases k with
  | zero=>
   obtain rfl:z = -1:=by have:=HZ.out;omega
   have HJ:Hid (J (backF rs) wr):=by
    unfold Hid;rw [Nat.sub_zero,List.take_of_length_le (by rw [backF_len];exact Nat.le_refl _)] at hJs;exact hJs
   clear HZ hJs
   gi_wp2
   go_end0
   exact ⟨⟨_,rfl⟩,Or.inl ⟨_,rfl,HJ.out⟩⟩
  | succ j=>
   obtain rfl:z=(j:Int):=by have:=HZ.out;omega
   obtain ⟨ub,rfl,hub,hcc⟩:∃ ub,a=some ⟨ub,0,none⟩∧ub<n₀∧∀ i,i<rs.length→wr.cell? ⟨ub,i*2,none⟩=some (.slice (rs.getD i fr0).la (rs.getD i fr0).ln (rs.getD i fr0).lc)∧wr.cell? ⟨ub,i*2+1,none⟩=some (.map (rs.getD i fr0).mb):=by
    obtain ⟨_,_,h⟩:=HU.out.below hK.below (Nat.le_refl _);rcases h with h | h
    · rw [h] at hkl;simp at hkl
    · exact h
   obtain ⟨q0,q1⟩:=hcc j (by omega);have HX:Hid ((backF rs).take (rs.length - (j+1))++[(j,rs.getD j fr0)]=(backF rs).take (rs.length - j)):=backF_step (by omega);have i1:(j:Int)<(rs.length:Int):=by omega
   have i0:(0:Int)≤(j:Int):=by omega
   have hw1:IntKind.i64.wrap ((j:Int) - 1)=(j:Int) - 1:=by rw [IntKind.wrap_i64];omega
   obtain ⟨fn,tmps,assign,body,hy,hRd⟩:=hY ((backF rs).take (rs.length - (j+1))) (j,rs.getD j fr0) wr hJs ⟨(backF rs).drop (rs.length - j),by
    rw [← List.singleton_append,← List.append_assoc,HX.out];exact List.take_append_drop _ _⟩
   dsimp only [encB] at hy;generalize rs.getD j fr0=x at *;clear hcc HZ hJs
   gi_wp2
   refine ⟨fun _=>by omega,hRd.mono ?_⟩;rintro e W3 (⟨rfl,hJ3,hk3⟩ | ⟨rfl,hJ3⟩)
   · have hK3:=hK.trans (hKp hBr hk3)
     rw [HX.out] at hJ3
     gi_wp2
     go_roundw
     case rel=>exact ⟨(j:Int) - 1,j,by first | rfl | simp,rfl,by omega,hJ3,hK3⟩
     case measure=>simp [intOf] <;> omega
   · gi_wp2
     refine bodyPost_ret (results_none rfl _ _ _) rfl ?_;exact ⟨⟨_,rfl⟩,Or.inr ⟨_,by rw [HX.out];exact List.take_prefix _ _,hJ3⟩⟩
end
section
open Go.RowKit Go.Shelf
attribute [local go_sem] Oper.semAt_some
theorem roundIn_any {l':Nat} {R:Ending→World→Prop} (h:RoundIn Fence.wide m P l f tmps assign body w R):RoundIn (Fence.wide.inRound l') m' P l f tmps assign body w R:=
 ⟨trivial,fun c cs _=>h.2 c cs (room_wide _)⟩
theorem wpIn_noPanic {F:Fence} {n:Nat} {c:Code} {Q:Exit→Act→World→Prop} {a:Act} (h:c.wpIn F n P (NoPanic Q) a w):c.wpIn F n P Q a w:=wpIn_mono h (fun e _ _ hq=>by
 cases e with
 | panic=>exact hq.elim
 | _=>exact hq)
theorem KeepE.undrew {V W:World} (h:KeepE n₀ Ex V.drew W):KeepE n₀ Ex V W:=⟨⟨h.below.os,h.below.tape,h.below.output,h.below.size,h.below.block⟩,h.cells⟩
def Went (A B:World→Prop) (r:Bool) (W:World):Prop:=(r=true∧A W)∨(r=false∧B W)
theorem went_any {l':Nat} {A B C:World→Prop} {K:World→Prop} (h:RoundIn Fence.wide m P l f tmps assign body w (fun e W'=>K W'∧((e=.returned (.bool true)∧A W'∧B W')∨(e=.returned (.bool false)∧C W')))):RoundIn (Fence.wide.inRound l') m' P l f tmps assign body w (fun e W'=>∃ r,e=.returned (.bool r)∧Went (fun W=>K W∧A W∧B W) (fun W=>K W∧C W) r W'):=
 roundIn_any (h.mono fun e W' hx=>by
  rcases hx with ⟨k,⟨rfl,h⟩ | ⟨rfl,h⟩⟩
  · exact ⟨true,rfl,Or.inl ⟨rfl,k,h⟩⟩
  · exact ⟨false,rfl,Or.inr ⟨rfl,k,h⟩⟩)
theorem went_wide {A B C:World→Prop} {K:World→Prop} (h:RoundIn Fence.wide m P l f tmps assign body w (fun e W'=>K W'∧((e=.returned (.bool true)∧A W'∧B W')∨(e=.returned (.bool false)∧C W')))):RoundIn Fence.wide m' P l f tmps assign body w (fun e W'=>∃ r,e=.returned (.bool r)∧Went (fun W=>K W∧A W∧B W) (fun W=>K W∧C W) r W'):=
 ⟨trivial,fun c cs _=>by
  obtain ⟨e,w',hx,hs⟩:=h.2 c cs (room_wide _);refine ⟨e,w',?_,hs⟩;rcases hx with ⟨k,⟨rfl,h⟩ | ⟨rfl,h⟩⟩
  · exact ⟨true,rfl,Or.inl ⟨rfl,k,h⟩⟩
  · exact ⟨false,rfl,Or.inr ⟨rfl,k,h⟩⟩⟩
theorem backward_any (a:Option Addr) (n c:Nat) (w:World):Calls Tryz.prog 112 #[.slice a n c] w fun e w'=>e=.returned (.func (.func 150) #[] #[.pointer (some ⟨w.heap.size,0,none⟩)])∧w'=w.alloc (.cells #[.slice a n c] 75):=by
 go_enter Tryz.func112,Tryz.ntmps112;go_wp2
 go_ret
 exact ⟨rfl,rfl⟩
theorem frames_any (tb:Addr) (w:World):Calls Tryz.prog 78 #[.pointer (some tb)] w fun e w'=>e=.returned (.func (.func 111) #[] #[.pointer (some ⟨w.heap.size,0,none⟩)])∧w'=w.alloc (.cells #[.pointer (some tb)] 30):=by
 go_enter Tryz.func78,Tryz.ntmps78;go_wp2
 go_ret
 exact ⟨rfl,rfl⟩
def upA (a:Option Addr) (i:Nat):Addr:=match a with
 | some p=>⟨p.block,i*2,none⟩
 | none=>⟨0,i*2,none⟩
def placesF (a:Option Addr) (tb n:Nat):List Addr:=(List.range n).reverse.map (upA a)++[⟨tb,0,none⟩]
def encA (x:Addr):Array Value:=#[.pointer (some x)]
theorem backF_upA (a:Option Addr) (rs:List FRep):(backF rs).map (fun x=>upA a x.1)=(List.range rs.length).reverse.map (upA a):=by
 unfold backF;rw [List.map_map];rfl
theorem frames_pays {rs:List FRep} {F0:FRep} {ua:Option Addr} {ucap tb Tn hi:Nat} (n:Nat) (hn:6≤n) (hTn:BoxA w Tn 30 #[.pointer (some ⟨tb,0,none⟩)]) (hT:BoxA w tb 77 #[.slice F0.la F0.ln F0.lc,.map F0.mb,.slice ua rs.length ucap]) (hU:UpIs n₀ w ua ucap rs) (htb:tb<n₀) (hTn₀:n₀≤Tn) (hEx:∀ g,Ex g→g<w.heap.size) (hExT:¬ Ex Tn) :
    PaysY Fence.wide n Tryz.prog 111 #[.pointer (some ⟨Tn,0,none⟩)] encA (KeepE n₀ Ex) (fun pre x _=>∃ r,pre++x :: r=placesF ua tb rs.length) (fun xs _=>xs=placesF ua tb rs.length) (fun xs=>xs <+: placesF ua tb rs.length) w hi:=by
 intro l J Jx W hW hhi hJ' hJx' hY' hJ0;have HJ:Hid (OwnFrom W.heap.size J):=hJ';have HJx:Hid (OwnFrom W.heap.size Jx):=hJx';have HY:Hid (∀ pre x W1,J pre W1→(∃ r,pre++x :: r=placesF ua tb rs.length)→YieldAt Fence.wide (n - 1) Tryz.prog l (encA x) W1 fun e W'=>KeepsFrom hi W1 W'∧((e=.returned (.bool true)∧J (pre++[x]) W'∧KeepE n₀ Ex W1 W')∨(e=.returned (.bool false)∧Jx (pre++[x]) W'))):=hY';clear hJ' hJx' hY';have hsW:=hW.size;have hTl:=hTn.lt;have TW:=hTn.below hW hTl;have tW:=hT.below hW hT.lt;have HU:Hid (UpIs n₀ W ua ucap rs):=hU.below hW (by omega);have hExW:∀ g,W.heap.size≤g→¬ Ex g:=fun g hg he=>by have:=hEx g he;omega
 have HEX:Hid (∀ g,W.heap.size≤g→¬ Ex g):=hExW;clear hTn hT hU hEx hExW;have kY:=below_alloc W (.cells #[.func (.yield l) #[] #[]] 176);have BY:=boxA_new W #[.func (.yield l) #[] #[]] 176;have c0:=(TW.below kY TW.lt).cell 0 rfl;have c2:=(tW.below kY tW.lt).cell 2 rfl;refine callsIn_of_wp_marks Tryz.func111 rfl trivial ?_ rfl;simp only [Tryz.ntmps111,List.size_toArray,List.length_cons,List.length_nil,Nat.reduceAdd,Nat.reduceSub,Array.replicate_succ,Array.replicate_zero,List.push_toArray,List.append_toArray,List.nil_append,List.cons_append]
 gi_wp2_with fail
 refine ⟨trivial,fun _=>by omega,?_⟩;refine (callsIn_wide.2 (backward_any _ _ _ _)).mono ?_;rintro e w2 ⟨rfl,rfl⟩
 gi_wp2_with fail
 have kB:=below_alloc (W.alloc (.cells #[.func (.yield l) #[] #[]] 176)) (.cells #[.slice ua rs.length ucap] 75);have BB:=boxA_new (W.alloc (.cells #[.func (.yield l) #[] #[]] 176)) #[.slice ua rs.length ucap] 75;rw [World.size_alloc] at BB;have BY0:=BY.below kB (by simp);have kW0:Below W.heap.size W _:=kY.trans (kB.mono (by simp));have sW0:((W.alloc (.cells #[.func (.yield l) #[] #[]] 176)).alloc (.cells #[.slice ua rs.length ucap] 75)).heap.size=W.heap.size+1+1:=by simp
 obtain ⟨W0,hW0⟩:∃ W0,(W.alloc (.cells #[.func (.yield l) #[] #[]] 176)).alloc (.cells #[.slice ua rs.length ucap] 75)=W0:=⟨_,rfl⟩;rw [hW0] at BB BY0 kW0 sW0 ⊢;clear hW0 kY kB BY c0 c2;have TW0:=TW.below kW0 TW.lt;have tW0:=tW.below kW0 tW.lt;have HU0:Hid (UpIs n₀ W0 ua ucap rs):=HU.out.below kW0 (by omega);have hnB:¬ Ex (W.heap.size+1):=HEX.out _ (by omega);have hnY:¬ Ex W.heap.size:=HEX.out _ (Nat.le_refl _);have hJ00:J [] W0:=HJ.out [] W W0 none hJ0 (grown_below kW0) (fun r e=>by cases e);have hseq:=backFr_pays (w:=W0) (n₀:=n₀) (Bn:=W.heap.size+1) (n - 1) (by omega) HU0.out (by omega) BB (Kp:=KeepE n₀ Ex) (fun hb hk=>⟨hk.below,by
  have h2:=hk.box hb (by omega) hnB;unfold BoxA at hb h2;rw [h2,hb]⟩)
 have HSEQ:Hid _:=hseq;clear hseq HU;refine wpIn_range_paysX rfl (by omega) (gf:=150) (lb:=#[.pointer (some ⟨W.heap.size+1,0,none⟩)]) rfl trivial (enters_of Tryz.func150 (by kernel_rfl) rfl)
  HSEQ.out
  (fun h h'=>h.trans h') (fun W l o o' hl ho hc _=>KeepE.put W l o o' (by omega) ho hc) (Below.refl _ _) (fun _=>rfl)
  (fun pre W'=>J (pre.map (fun x=>upA ua x.1)) W'∧KeepE n₀ Ex W0 W')
  ?hI ⟨hJ00,KeepE.refl _ _ _⟩ ?hS
  (fun c pre W'=>c=.ret∧Jx (pre.map (fun x=>upA ua x.1)) W') ?hIx
  (fun pre x a' W'=>(∃ r,pre++x :: r=backF rs)∧a'={ tmps:=#[.func (.yield l) #[] #[],.pointer (some ⟨Tn,0,none⟩),.pointer (some ⟨W.heap.size,0,none⟩),.int .i64 x.1,.pointer (some ⟨tb,0,none⟩),.pointer (some ⟨tb,0,none⟩),.pointer (some ⟨tb,2,none⟩),.slice ua rs.length ucap,.func (.func 150) #[] #[.pointer (some ⟨W.heap.size+1,0,none⟩)],.int .i64 x.1,.agg #[.slice x.2.la x.2.ln x.2.lc,.map x.2.mb],undef,undef,undef,undef,undef,undef,undef,undef,undef,undef,undef,undef,undef,undef],defers:=[] })
  ?hAx ?assign ?body ?done ?stop
 case hI=>
  rintro s A B row ⟨h1,h2⟩ hg hrow;exact ⟨HJ.out _ A B row h1 hg (fun r e=>⟨by have:=(hrow r e).1;omega,(hrow r e).2⟩),h2.grown hg (by have:=h2.below.size;omega) (fun r e=>⟨by have:=(hrow r e).1;omega,(hrow r e).2⟩)⟩
 case hS=>
  rintro s A B row h hg hrow;exact h
 case hIx=>
  rintro c s A B row ⟨h1,h2⟩ hg hrow;exact ⟨h1,HJx.out _ A B row h2 hg (fun r e=>⟨by have:=(hrow r e).1;omega,(hrow r e).2⟩)⟩
 case hAx=>
  rintro pre x a' _ A B row h hg hrow;exact h
 case assign=>
  rintro l' pre x V K hi hG hK;dsimp only [encB]
  gi_wp2
  exact hK _ _ (KeepsOthers.refl _ |>.from _) (KeepE.refl _ _ _) hi ⟨hG,rfl⟩
 case body=>
  rintro l' pre x a' V ⟨hJv,hkv⟩ ⟨⟨rr,hG⟩,rfl⟩;have hxm:x∈backF rs:=by rw [← hG];simp
  have hx:x.1<rs.length:=by
   unfold backF at hxm;obtain ⟨i,hi,rfl⟩:=List.mem_map.1 hxm;simpa using hi
  obtain ⟨ub,rfl,hub⟩:∃ ub,ua=some ⟨ub,0,none⟩∧ub<n₀:=by
   obtain ⟨_,_,h | ⟨ub,h1,h2,_⟩⟩:=HU0.out
   · rw [h] at hx;simp at hx
   · exact ⟨ub,h1,h2⟩
  obtain ⟨hu1,hu2,_⟩:=HU0.out;have cY:=(hkv.box BY0 (by omega) hnY).cell 0 rfl;have cT:=(hkv.box TW0 (by omega) hExT).cell 0 rfl;have ct:=(tW0.below hkv.below (by omega)).cell 2 rfl;have i0:(0:Int)≤(x.1:Int):=by omega
  have i1:(x.1:Int)<(rs.length:Int):=by omega
  have HP:Hid (pre.map (fun x=>upA (some ⟨ub,0,none⟩) x.1)++upA (some ⟨ub,0,none⟩) x.1 :: (rr.map (fun x=>upA (some ⟨ub,0,none⟩) x.1)++[⟨tb,0,none⟩])=placesF (some ⟨ub,0,none⟩) tb rs.length):=by
   unfold Hid placesF;rw [← backF_upA,← hG,List.map_append,List.map_cons,List.append_assoc];rfl
  obtain ⟨fn,tmps,assign,body,hy,hRd⟩:=HY.out (pre.map (fun x=>upA (some ⟨ub,0,none⟩) x.1)) (upA (some ⟨ub,0,none⟩) x.1) V.drew (HJ.out _ V _ none hJv ⟨rfl,rfl,rfl,Nat.le_refl _,fun _ _ _=>rfl⟩ (fun r e=>by cases e)) ⟨_,HP.out⟩;dsimp only [encA,upA] at hy;have HR:Hid (∀ l' m',RoundIn (Fence.wide.inRound l') m' Tryz.prog l fn tmps assign body V.drew _):=fun l' m'=>went_any hRd;clear hRd hG hxm;have HK:Hid (KeepE n₀ Ex W0 V):=hkv;have HNX:Hid (List.map (fun x=>upA (some ⟨ub,0,none⟩) x.1) (pre++[x])=List.map (fun x=>upA (some ⟨ub,0,none⟩) x.1) pre++[upA (some ⟨ub,0,none⟩) x.1]):=by unfold Hid;rw [List.map_append];rfl
  clear hJv hkv HP HU0 HSEQ hJ00 hu1 TW0 tW0 BY0 BB TW tW
  gi_wp2_with fail
  gi_region_with (refine ⟨fun _=>by omega,(HR.out _ _).mono ?_⟩;rintro e W4 ⟨r,rfl,h4⟩)
  all_goals
   cases r with
   | true=>
    obtain ⟨_,kf,hJ4,hK4⟩ | ⟨h,_⟩:=h4
    rotate_left
    · cases h
    gi_wp2_with fail
    exact ⟨⟨kf.size,fun k o hk hh ho=>kf.same k o (by omega) hh ho⟩,hK4.undrew,by rw [HNX.out];exact hJ4,HK.out.trans hK4.undrew⟩
   | false=>
    obtain ⟨h,_⟩ | ⟨_,kf,hJ4⟩:=h4
    · cases h
    gi_wp2_with fail
    exact ⟨⟨kf.size,fun k o hk hh ho=>kf.same k o (by omega) hh ho⟩,rfl,by rw [HNX.out];exact hJ4⟩
 case done=>
  rintro Dn xs V hDn hS ⟨hJv,hkv⟩ hdef;have cY:=(hkv.box BY0 (by omega) hnY).cell 0 rfl;have cT:=(hkv.box TW0 (by omega) hExT).cell 0 rfl;have HP:Hid (xs.map (fun x=>upA ua x.1)++(⟨tb,0,none⟩:Addr) :: []=placesF ua tb rs.length):=by
   unfold Hid placesF;rw [hS,backF_upA]
  obtain ⟨fn,tmps,assign,body,hy,hRd⟩:=HY.out (xs.map (fun x=>upA ua x.1)) ⟨tb,0,none⟩ V.drew (HJ.out _ V _ none hJv ⟨rfl,rfl,rfl,Nat.le_refl _,fun _ _ _=>rfl⟩ (fun r e=>by cases e)) ⟨_,HP.out⟩;dsimp only [encA] at hy;have HR:Hid (∀ m',RoundIn Fence.wide m' Tryz.prog l fn tmps assign body V.drew _):=fun m'=>went_wide hRd;have HDF:Hid (V.heap[Dn]? = some (.deferred (some []))):=hdef;clear hRd hJv hkv hS HU0 HSEQ hJ00 TW0 tW0 BY0 BB TW tW hdef
  gi_wp2_with fail
  refine wpIn_noPanic ?_
  gi_region_with (refine ⟨fun _=>by omega,(HR.out _).mono ?_⟩;rintro e W4 ⟨r,rfl,h4⟩)
  all_goals
   have HD4:Hid (W4.heap[Dn]? = some (.deferred (some []))):=by
    obtain ⟨_,kf,_,_⟩ | ⟨_,kf,_⟩:=h4
    · exact kf.same Dn _ (by omega) HDF.out rfl
    · exact kf.same Dn _ (by omega) HDF.out rfl
   have HF4:Hid ((∃ ys,ys=placesF ua tb rs.length∧J ys (W4.putObj Dn (.deferred none)))∨(∃ ys,ys <+: placesF ua tb rs.length∧Jx ys (W4.putObj Dn (.deferred none)))):=by
    obtain ⟨_,kf,hJ4,_⟩ | ⟨_,kf,hJ4⟩:=h4
    · exact Or.inl ⟨_,HP.out,HJ.out.putObj _ hJ4 (by omega) HD4.out rfl⟩
    · exact Or.inr ⟨_,(by rw [HP.out];exact List.prefix_rfl),HJx.out.putObj _ hJ4 (by omega) HD4.out rfl⟩
   clear h4
   gi_wp2_with fail
   refine ⟨by simp,.inl ⟨_,_,rfl,run_takeDeferred HD4.out,?_⟩⟩;exact ⟨_,results_none rfl _ _ _,⟨_,rfl⟩,HF4.out⟩
 case stop=>
  rintro Dn c xs V hDn hSp ⟨rfl,hJv⟩ hdef;have HF4:Hid (∃ ys,ys <+: placesF ua tb rs.length∧Jx ys (V.putObj Dn (.deferred none))):=by
   refine ⟨_,?_,HJx.out.putObj _ hJv (by omega) hdef rfl⟩;obtain ⟨rr,hrr⟩:=hSp;refine ⟨rr.map (fun x=>upA ua x.1)++[⟨tb,0,none⟩],?_⟩;unfold placesF;rw [← backF_upA,← hrr,List.map_append,List.append_assoc]
  gi_wp2
  refine ⟨by simp,.inl ⟨_,_,rfl,run_takeDeferred hdef,?_⟩⟩;exact ⟨_,results_none rfl _ _ _,⟨_,rfl⟩,Or.inr HF4.out⟩
end
end Go.Proofs.YtimfnalpmmkndaaGreatDoor
