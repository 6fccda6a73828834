/- As RangeX, where the iterator may itself hold a range over a function. -/
import Derived.Test.YtheaeggecpfcbaaGreatK7
import Derived.OwnWalkIn
import Derived.TacticsInMore
import Derived.LoopNIn
import Derived.LoopIn
import Derived.Stop.RegionWithIn
import Derived.Deep.RegionHeld3
set_option linter.unusedVariables false
set_option linter.unusedSimpArgs false
namespace Go.Proofs.YtheaeggecpfcbaaGreat
section
open Go.RowKit
/-- An iterator's word, as PaysX; what the rounds keep stays where no cells are turned, and each round leaves the records from hi on as they were. -/
def PaysY {α:Type} (F:Fence) (n:Nat) (P:Program) (g:Nat) (lb:Array Value) (encs:α→Array Value) (Kp:World→World→Prop) (Gd:List α→α→World→Prop) (S:List α→World→Prop) (Sp:List α→Prop) (w:World) (hi:Nat):Prop:=
 ∀ (l:Nat) (J Jx:List α→World→Prop) (W:World),Below w.heap.size w W→hi≤W.heap.size→OwnFrom W.heap.size J→OwnFrom W.heap.size Jx →
  (∀ pre x W1,J pre W1→Gd pre x W1→YieldAt F (n - 1) P l (encs x) W1 fun e W'=>KeepsFrom hi W1 W'∧((e=.returned (.bool true)∧J (pre++[x]) W'∧Kp W1 W')∨(e=.returned (.bool false)∧Jx (pre++[x]) W'))) →
  J [] W→CallsIn F n P g (#[.func (.yield l) #[] #[]]++lb) W fun e W'=>(∃ v,e=.returned v)∧((∃ xs,S xs W'∧J xs W')∨(∃ xs,Sp xs∧Jx xs W'))
theorem keeps_up {B C:Nat} {W W':World} (h:KeepsFrom B W W') (hC:B≤C):KeepsFrom C W W':=⟨h.size,fun k o hk hh ho=>h.same k o (by omega) hh ho⟩
theorem keeps_put {B l:Nat} (W:World) (o:Obj) (hl:l<B):KeepsFrom B W (W.putObj l o):=⟨by simp [World.putObj],fun k _ hk hh _=>(World.putObj_heap_other (by omega)).trans hh⟩
theorem Stands.grownO {L:Nat} {r:Loop} {W W':World} {row:Option Nat} (h:Stands L r W) (hg:W.grownBy W' row) (hr:∀ k,row=some k→L+2≤k):Stands L r W':=by
 have hl:=h.lt;refine ⟨?_,?_⟩
 · rw [hg.block (L+1) hl (fun e=>by have:=hr _ e.symm;omega)];exact h.1
 · rw [hg.block L (by omega) (fun e=>by have:=hr _ e.symm;omega)];exact h.2
variable {F:Fence} {n:Nat} {P:Program} {w:World}
section
variable {α:Type} {g:Operand} {ps:Array Tmp} {assign body:Code} {Q:Exit→Act→World→Prop} {a:Act} {gf:Nat} {lb:Array Value} {encs:α→Array Value} {Kp:World→World→Prop} {Gd:List α→α→World→Prop} {S:List α→World→Prop} {Sp:List α→Prop} {w0:World}
theorem round_paysY {fn:FuncId} {r:Loop} (hfn:F.fn fn) (hr:r={ state:=.ready,pending:=none,fn,tmps:=a.tmps,params:=ps,assign,body,defers:=w.heap.size })
    (hKt:∀ {A B C:World},Kp A B→Kp B C→Kp A C) (hKb:∀ (W:World) (l:Nat) (o o':Obj),w.heap.size≤l→W.heap[l]? = some o→o.isCells=false→o.isWalk=false→Kp W (W.putObj l o')) (hps:∀ x,(encs x).size=ps.size)
    (I:List α→World→Prop) (hI:OwnFrom w.heap.size I) (Ix:Code→List α→World→Prop) (hIx:∀ c,OwnFrom w.heap.size (Ix c)) (Ax:List α→α→Act→World→Prop) (hAx:∀ pre x a',OwnFrom w.heap.size (fun (_:Unit) W=>Ax pre x a' W))
    (hassign:∀ (l:Nat) (pre:List α) (x:α) (W:World) (K:Act→World→Prop),I pre W→Gd pre x W→(∀ a' W',KeepsFrom w.heap.size W W'→Kp W W'→I pre W'→Ax pre x a' W'→K a' W') →
     assign.wpIn (F.inRound l) (n - 1 - 1) P (Exit.then K (fun _ _ _=>False)) { tmps:=(ps.zip (encs x)).foldl (fun t (p,v)=>t.setIfInBounds p v) a.tmps,defers:=[] } W)
    (hbody:∀ (l:Nat) (pre:List α) (x:α) (a':Act) (W:World),I pre W→Ax pre x a' W→body.wpIn (F.inRound l) (n - 1 - 1) P (ownPostG w.heap.size Kp I Ix (pre++[x]) W) a' W)
    (pre:List α) (x:α) (W:World) (hi:I pre W) (hst:Stands w.heap.size r W) (hG:Gd pre x W) :
    YieldAt F (n - 1 - 1) P (w.heap.size+1) (encs x) W fun e W'=>KeepsFrom (w.heap.size+2) W W'∧((e=.returned (.bool true)∧(I (pre++[x]) W'∧Stands w.heap.size r W')∧Kp W W')∨(e=.returned (.bool false)∧∃ c,Ix c (pre++[x]) W'∧Stands w.heap.size { r with state:=.done,pending:=some c } W')):=by
 have hy:=run_yield (P:=P) (args:=encs x) hst.1 (by rw [hr];exact hps x);rw [hr] at hy;refine ⟨fn,_,assign,body,hy,roundIn_of_wpIn hfn (hassign _ pre x W _ hi hG ?_)⟩;intro a' Wa hka hkp hia hax;have hs1:=hst.keeps hka;refine ⟨_,run_beginRound hs1.1 (by rw [hr]),?_⟩;have hs2:=hs1.put { r with state:=.busy };have kf2:KeepsFrom (w.heap.size+2) W (Wa.putObj (w.heap.size+1) (.loop { r with state:=.busy })):=(keeps_up hka (by omega)).trans (keeps_put _ _ (by omega));have hk2:Kp Wa _:=hKb Wa (w.heap.size+1) _ (.loop { r with state:=.busy }) (by omega) hs1.1 rfl rfl;refine wpIn_mono (hbody _ pre x a' _ (hI.putObj _ hia (by omega) hs1.1 rfl) ((hAx pre x a').putObj (s:=()) _ hax (by omega) hs1.1 rfl)) ?_;have hrd:r.state=.ready∧r.pending=none:=by rw [hr];exact ⟨rfl,rfl⟩
 have leave:∀ (c:Code) (W3:World),KeepsFrom w.heap.size (Wa.putObj (w.heap.size+1) (.loop { r with state:=.busy })) W3→Ix c (pre++[x]) W3→∃ v W4,(Instr.endRound (w.heap.size+1) (some c)).run P W3=.ok v W4 ∧
     KeepsFrom (w.heap.size+2) W W4∧((Ending.returned v=.returned (.bool true)∧(I (pre++[x]) W4∧Stands w.heap.size r W4)∧Kp W W4)∨(Ending.returned v=.returned (.bool false)∧∃ c,Ix c (pre++[x]) W4∧Stands w.heap.size { r with state:=.done,pending:=some c } W4)):=fun c W3 hk3 hi3=>by
  have hs3:=hs2.keeps hk3;exact ⟨_,_,end_round hs3 hrd.2 hrd.1 (some c),(kf2.trans (keeps_up hk3 (by omega))).trans (keeps_put _ _ (by omega)),Or.inr ⟨rfl,c,(hIx c).putObj _ hi3 (by omega) hs3.1 rfl,hs3.put _⟩⟩
 rintro e a3 W3 hp
 cases e with
 | normal=>
  obtain ⟨hk3,hkp3,hi3⟩:=hp;have hs3:=hs2.keeps hk3;have he:=end_round (P:=P) hs3 hrd.2 hrd.1 none;have e4:({ r with state:=if (none:Option Code).isNone then .ready else .done,pending:=none }:Loop)=r:=by rw [hr];rfl
  rw [e4] at he;exact ⟨_,_,he,(kf2.trans (keeps_up hk3 (by omega))).trans (keeps_put _ _ (by omega)),Or.inl ⟨rfl,⟨hI.putObj _ hi3 (by omega) hs3.1 rfl,hs3.put r⟩,hKt hkp (hKt hk2 (hKt hkp3 (hKb W3 (w.heap.size+1) _ _ (by omega) hs3.1 rfl rfl)))⟩⟩
 | ret=>exact leave .ret W3 hp.1 hp.2
 | exit id=>exact leave (.exit id) W3 hp.1 hp.2
 | goto t=>exact leave (.goto t) W3 hp.1 hp.2
 | panic ch=>exact hp.elim
 | outgrown=>exact hp.elim
theorem wpIn_range_paysY (hro:F.round=none) (h1:1≤n) (hg:a.eval g=.func (.func gf) #[] lb) (hFg:F.fn gf) (eg:∀ args w,(callFunc gf args).run P w=.ok (.enter gf args) w)
    (hseq:PaysY F (n - 1) P gf lb encs Kp Gd S Sp w0 (w.heap.size+2)) (hKt:∀ {A B C:World},Kp A B→Kp B C→Kp A C) (hKb:∀ (W:World) (l:Nat) (o o':Obj),w.heap.size≤l→W.heap[l]? = some o→o.isCells=false→o.isWalk=false→Kp W (W.putObj l o')) (hb0:Below w0.heap.size w0 w) (hps:∀ x,(encs x).size=ps.size)
    (I:List α→World→Prop) (hI:OwnFrom w.heap.size I) (h0:I [] w) (hS:OwnFrom w.heap.size S) (Ix:Code→List α→World→Prop) (hIx:∀ c,OwnFrom w.heap.size (Ix c)) (Ax:List α→α→Act→World→Prop) (hAx:∀ pre x a',OwnFrom w.heap.size (fun (_:Unit) W=>Ax pre x a' W))
    (hassign:∀ (l:Nat) (pre:List α) (x:α) (W:World) (K:Act→World→Prop),I pre W→Gd pre x W→(∀ a' W',KeepsFrom w.heap.size W W'→Kp W W'→I pre W'→Ax pre x a' W'→K a' W') →
     assign.wpIn (F.inRound l) (n - 1 - 1) P (Exit.then K (fun _ _ _=>False)) { tmps:=(ps.zip (encs x)).foldl (fun t (p,v)=>t.setIfInBounds p v) a.tmps,defers:=[] } W)
    (hbody:∀ (l:Nat) (pre:List α) (x:α) (a':Act) (W:World),I pre W→Ax pre x a' W→body.wpIn (F.inRound l) (n - 1 - 1) P (ownPostG w.heap.size Kp I Ix (pre++[x]) W) a' W)
    (hdone:∀ (D:Nat) (xs:List α) (W:World),w.heap.size≤D→S xs W→I xs W→W.heap[D]? = some (.deferred (some []))→Q .normal { a with defers:={ target:=.collected D,args:=#[] } :: a.defers } W)
    (hstop:∀ (D:Nat) (c:Code) (xs:List α) (W:World),w.heap.size≤D→Sp xs→Ix c xs W→W.heap[D]? = some (.deferred (some []))→c.wpIn F n P Q { a with defers:={ target:=.collected D,args:=#[] } :: a.defers } W) :
    (Code.rangeFunc g ps assign body).wpIn F n P Q a w:=by
 refine wpIn_rangeFunc fun fn hfn => ?_;obtain ⟨r,hr⟩:∃ r:Loop,r={ state:=.ready,pending:=none,fn,tmps:=a.tmps,params:=ps,assign,body,defers:=w.heap.size }:=⟨_,rfl⟩;have hs0:Stands w.heap.size r ((w.alloc (.deferred (some []))).alloc (.loop r)):=by
  refine ⟨?_,(Below.heap_alloc _ _ _ (by simp)).trans (World.alloc_heap_new w _)⟩;have:=World.alloc_heap_new (w.alloc (.deferred (some []))) (.loop r)
  rwa [World.size_alloc] at this
 have hi0:I [] ((w.alloc (.deferred (some []))).alloc (.loop r)):=hI.alloc _ (hI.alloc _ h0);have hb1:Below w0.heap.size w0 ((w.alloc (.deferred (some []))).alloc (.loop r)):=hb0.trans ((((Below.refl _ w).alloc (Nat.le_refl _) _).alloc (by simp) _).mono hb0.size);have hz:w.heap.size≤((w.alloc (.deferred (some []))).alloc (.loop r)).heap.size:=by simp;omega
 have he:(Instr.enterLoop fn a.tmps ps assign body F.round).run P w=.ok (w.heap.size+1,[{ target:=.collected w.heap.size,args:=#[] }]) ((w.alloc (.deferred (some []))).alloc (.loop r)):=by
  rw [hro,hr];exact run_enterLoop_outer _ _ _ _ _
 generalize (w.alloc (.deferred (some []))).alloc (.loop r)=W1 at *;refine ⟨w.heap.size+1,_,W1,{ target:=.fn (.func gf) lb,args:=#[.func (.yield (w.heap.size+1)) #[] #[]] },W1,gf,#[.func (.yield (w.heap.size+1)) #[] #[]]++lb,W1,he,?_,?_,?_,fun _=>h1,?_⟩
 · simp only [resolve,hg]
   simp [go_sem]
 · intro f' hf';simp [Target.leads] at hf';subst hf';exact hFg
 · simp [invoke,go_sem,eg]
 · have hz1:w.heap.size+2≤W1.heap.size:=by have:=hs0.lt;omega
   refine (hseq (w.heap.size+1) (fun pre W=>I pre W∧Stands w.heap.size r W) (fun pre W=>∃ c,Ix c pre W∧Stands w.heap.size { r with state:=.done,pending:=some c } W) W1 hb1 hz1
    (fun s A B row hs hg' hrow=>⟨hI s A B row hs.1 hg' (fun k e=>⟨by have:=(hrow k e).1;omega,(hrow k e).2⟩),hs.2.grownO hg' (fun k e=>by have:=(hrow k e).1;omega)⟩)
    (fun s A B row hs hg' hrow=>by obtain ⟨c,h1,h2⟩:=hs;exact ⟨c,hIx c s A B row h1 hg' (fun k e=>⟨by have:=(hrow k e).1;omega,(hrow k e).2⟩),h2.grownO hg' (fun k e=>by have:=(hrow k e).1;omega)⟩)
    (fun pre x W hJ hG=>round_paysY (n:=n) (P:=P) (w:=w) (a:=a) (Kp:=Kp) (Gd:=Gd) hfn hr (fun h h'=>hKt h h') hKb hps I hI Ix hIx Ax hAx hassign hbody pre x W hJ.1 hJ.2 hG) ⟨hi0,hs0⟩).mono ?_
   rintro e W2 ⟨⟨v,rfl⟩,⟨xs,hxs,hi,hst⟩ | ⟨xs,hsp,c,hi,hst⟩⟩
   · have hend:=run_endLoop (P:=P) hst.1 (by rw [hr];simp)
     have hp:r.pending=none:=by rw [hr]
     rw [hp] at hend;exact ⟨none,_,hend,hdone _ xs _ (Nat.le_refl _) (hS.putObj _ hxs (by omega) hst.1 rfl) (hI.putObj _ hi (by omega) hst.1 rfl) ((World.putObj_heap_other (by omega)).trans hst.2)⟩
   · have hend:=run_endLoop (P:=P) hst.1 (by simp)
     exact ⟨some c,_,hend,hstop _ c xs _ (Nat.le_refl _) hsp ((hIx c).putObj _ hi (by omega) hst.1 rfl) ((World.putObj_heap_other (by omega)).trans hst.2)⟩
end
end
section
open Go.RowKit Go.Shelf
attribute [local go_sem] Oper.semAt_some
/-- What a round keeps: what lay below n₀, and the block Bn. -/
structure KeepF (n₀ Bn:Nat) (W W':World):Prop where
 below:Below n₀ W W'
 box:W'.heap[Bn]? = W.heap[Bn]?
theorem KeepF.trans {n₀ Bn:Nat} {A B C:World} (h:KeepF n₀ Bn A B) (k:KeepF n₀ Bn B C):KeepF n₀ Bn A C:=⟨h.below.trans k.below,k.box.trans h.box⟩
/-- What a round keeps: what lay below n₀, and above it all cells but some. -/
structure KeepE (n₀:Nat) (Ex:Nat→Prop) (W W':World):Prop where
 below:Below n₀ W W'
 cells:∀ g cs t fr,n₀≤g→¬ Ex g→W.heap[g]? = some (.cells cs t fr)→W'.heap[g]? = some (.cells cs t fr)
theorem KeepE.refl (n₀:Nat) (Ex:Nat→Prop) (W:World):KeepE n₀ Ex W W:=⟨Below.refl _ _,fun _ _ _ _ _ _ h=>h⟩
theorem KeepE.trans {n₀:Nat} {Ex:Nat→Prop} {A B C:World} (h:KeepE n₀ Ex A B) (k:KeepE n₀ Ex B C):KeepE n₀ Ex A C:=⟨h.below.trans k.below,fun g cs t fr h1 h2 h3=>k.cells g cs t fr h1 h2 (h.cells g cs t fr h1 h2 h3)⟩
theorem KeepE.box {n₀:Nat} {Ex:Nat→Prop} {A B:World} {g ty:Nat} {xs:Array Value} (h:KeepE n₀ Ex A B) (hb:BoxA A g ty xs) (h1:n₀≤g) (h2:¬ Ex g):BoxA B g ty xs:=h.cells g _ _ _ h1 h2 hb
theorem KeepE.put {n₀:Nat} {Ex:Nat→Prop} (W:World) (l:Nat) (o o':Obj) (hl:n₀≤l) (ho:W.heap[l]? = some o) (hc:o.isCells=false):KeepE n₀ Ex W (W.putObj l o'):=
 ⟨⟨rfl,rfl,rfl,by simp [World.putObj],fun g hg=>World.putObj_heap_other (by omega)⟩,fun g cs t fr h1 h2 h3=>by
  rw [World.putObj_heap_other (fun e=>by
   subst e;rw [h3] at ho
   cases ho
   cases hc)]
  exact h3⟩
end
section
open Go.RowKit Go.Shelf
attribute [local go_sem] Oper.semAt_some
theorem roundIn_any {m m' l l':Nat} {P:Program} {f:FuncId} {tmps:Array Value} {assign body:Code} {w:World} {R:Ending→World→Prop} (h:RoundIn Fence.wide m P l f tmps assign body w R):RoundIn (Fence.wide.inRound l') m' P l f tmps assign body w R:=
 ⟨trivial,fun c cs _=>h.2 c cs (room_wide _)⟩
theorem wpIn_noPanic {F:Fence} {n:Nat} {P:Program} {c:Code} {Q:Exit→Act→World→Prop} {a:Act} {w:World} (h:c.wpIn F n P (NoPanic Q) a w):c.wpIn F n P Q a w:=wpIn_mono h (fun e _ _ hq=>by
 cases e with
 | panic=>exact hq.elim
 | _=>exact hq)
/-- How a round ended: it goes on, or says 'no more'. -/
def Went (A B:World→Prop) (r:Bool) (W:World):Prop:=(r=true∧A W)∨(r=false∧B W)
theorem went_any {m m' l l':Nat} {P:Program} {f:FuncId} {tmps:Array Value} {assign body:Code} {w:World} {A B C:World→Prop} {K:World→Prop} (h:RoundIn Fence.wide m P l f tmps assign body w (fun e W'=>K W'∧((e=.returned (.bool true)∧A W'∧B W')∨(e=.returned (.bool false)∧C W')))):RoundIn (Fence.wide.inRound l') m' P l f tmps assign body w (fun e W'=>∃ r,e=.returned (.bool r)∧Went (fun W=>K W∧A W∧B W) (fun W=>K W∧C W) r W'):=
 roundIn_any (h.mono fun e W' hx=>by
  rcases hx with ⟨k,⟨rfl,h⟩ | ⟨rfl,h⟩⟩
  · exact ⟨true,rfl,Or.inl ⟨rfl,k,h⟩⟩
  · exact ⟨false,rfl,Or.inr ⟨rfl,k,h⟩⟩)
theorem went_wide {m m' l:Nat} {P:Program} {f:FuncId} {tmps:Array Value} {assign body:Code} {w:World} {A B C:World→Prop} {K:World→Prop} (h:RoundIn Fence.wide m P l f tmps assign body w (fun e W'=>K W'∧((e=.returned (.bool true)∧A W'∧B W')∨(e=.returned (.bool false)∧C W')))):RoundIn Fence.wide m' P l f tmps assign body w (fun e W'=>∃ r,e=.returned (.bool r)∧Went (fun W=>K W∧A W∧B W) (fun W=>K W∧C W) r W'):=
 ⟨trivial,fun c cs _=>by
  obtain ⟨e,w',hx,hs⟩:=h.2 c cs (room_wide _);refine ⟨e,w',?_,hs⟩;rcases hx with ⟨k,⟨rfl,h⟩ | ⟨rfl,h⟩⟩
  · exact ⟨true,rfl,Or.inl ⟨rfl,k,h⟩⟩
  · exact ⟨false,rfl,Or.inr ⟨rfl,k,h⟩⟩⟩
end
end Go.Proofs.YtheaeggecpfcbaaGreat
