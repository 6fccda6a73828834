/- A range over a function whose items are told together with what they are in memory: the iterator pays a fact on each item ahead of its round, and the body may use it. -/
import Derived.RangeFuncNested
import Derived.RangeFuncBound
import Derived.RangeFuncCalls
import Derived.RangeFuncLeaves
import Derived.RangeFuncBox
import Derived.Test.YtheaeggecpfcbaaGreatProg
import Derived.Test.YtheaeggecpfcbaaGreatJ3
import Derived.Laws.AppendOwnNone
import Derived.Test.YtheaeggecpfcbaaGreatJ6
import Derived.Test.YtheaeggecpfcbaaGreatJ5
import Derived.Test.YtheaeggecpfcbaaGreatJ1
import Derived.Maps.AppendAt
import Derived.Deep.RegionHeld3
set_option maxRecDepth 100000
set_option maxHeartbeats 16000000
set_option linter.unusedVariables false
set_option linter.unusedSimpArgs false
namespace Go.Proofs.YtheaeggecpfcbaaGreat
section
open Go.RowKit
/-- An iterator's word: ahead of each item x it pays Gd (what has come, x, the world); each round goes on, keeps Kp, and leads from J at what has come to J at one more; at the end S holds of all items and the world. -/
def Pays {α:Type} (F:Fence) (n:Nat) (P:Program) (g:Nat) (lb:Array Value) (encs:α→Array Value) (Kp:World→World→Prop) (Gd:List α→α→World→Prop) (S:List α→World→Prop) (w:World):Prop:=
 ∀ (l:Nat) (J:List α→World→Prop) (W:World),Below w.heap.size w W→AbidesFrom W.heap.size J →
  (∀ pre x W1,J pre W1→Gd pre x W1→YieldAt F (n - 1) P l (encs x) W1 fun e W'=>e=.returned (.bool true)∧J (pre++[x]) W'∧Kp W1 W') →
  J [] W→CallsIn F n P g (#[.func (.yield l) #[] #[]]++lb) W fun e W'=>(∃ v,e=.returned v)∧∃ xs,S xs W'∧J xs W'
variable {F:Fence} {n:Nat} {P:Program} {w:World}
/-- The loop's two blocks: its record, ready, and the block for deferred calls ahead of it. -/
def Stands (L:Nat) (r:Loop) (W:World):Prop:=W.heap[L+1]? = some (.loop r)∧W.heap[L]? = some (.deferred (some []))
theorem Stands.lt {L:Nat} {r:Loop} {W:World} (h:Stands L r W):L+1<W.heap.size:=(Array.getElem?_eq_some_iff.1 h.1).1
theorem Stands.keeps {L:Nat} {r:Loop} {W W':World} (h:Stands L r W) (hk:KeepsFrom L W W'):Stands L r W':=⟨hk.same _ _ (by omega) h.1 rfl,hk.same _ _ (Nat.le_refl _) h.2 rfl⟩
theorem Stands.put {L:Nat} {r:Loop} {W:World} (h:Stands L r W) (r':Loop):Stands L r' (W.putObj (L+1) (.loop r')):=⟨World.putObj_heap_same h.lt,(World.putObj_heap_other (by omega)).trans h.2⟩
theorem Stands.grown {L:Nat} {r:Loop} {W W':World} {row:Option Nat} (h:Stands L r W) (hg:W.grownBy W' row) (hr:∀ k,row=some k→∃ o:Obj,W.heap[k]? = some o∧o.isWalk=true):Stands L r W':=
 ⟨(grownBy_keeps hg hr h.1 rfl).trans h.1,(grownBy_keeps hg hr h.2 rfl).trans h.2⟩
section
variable {α:Type} {g:Operand} {ps:Array Tmp} {assign body:Code} {Q:Exit→Act→World→Prop} {a:Act} {gf:Nat} {lb:Array Value} {encs:α→Array Value} {Kp:World→World→Prop} {Gd:List α→α→World→Prop} {S:List α→World→Prop} {w0:World}
/-- One round of such a loop. -/
theorem round_pays {fn:FuncId} {r:Loop} (hfn:F.fn fn) (hr:r={ state:=.ready,pending:=none,fn,tmps:=a.tmps,params:=ps,assign,body,defers:=w.heap.size })
    (hKt:∀ {A B C:World},Kp A B→Kp B C→Kp A C) (hKb:∀ (W:World) (l:Nat) (o o':Obj),w.heap.size≤l→W.heap[l]? = some o→o.isCells=false→o.isWalk=false→Kp W (W.putObj l o')) (hps:∀ x,(encs x).size=ps.size)
    (I:List α→World→Prop) (hI:OwnFrom w.heap.size I) (Ax:List α→α→Act→World→Prop) (hAx:∀ pre x a',OwnFrom w.heap.size (fun (_:Unit) W=>Ax pre x a' W))
    (hassign:∀ (l:Nat) (pre:List α) (x:α) (W:World) (K:Act→World→Prop),I pre W→Gd pre x W→(∀ a' W',KeepsFrom w.heap.size W W'→Kp W W'→I pre W'→Ax pre x a' W'→K a' W') →
     assign.wpIn (F.inRound l) (n - 1 - 1) P (Exit.then K (fun _ _ _=>False)) { tmps:=(ps.zip (encs x)).foldl (fun t (p,v)=>t.setIfInBounds p v) a.tmps,defers:=[] } W)
    (hbody:∀ (l:Nat) (pre:List α) (x:α) (a':Act) (W:World),I pre W→Ax pre x a' W→body.wpIn (F.inRound l) (n - 1 - 1) P (fun e _ W'=>e=.normal∧KeepsFrom w.heap.size W W'∧Kp W W'∧I (pre++[x]) W') a' W)
    (pre:List α) (x:α) (W:World) (hi:I pre W) (hst:Stands w.heap.size r W) (hG:Gd pre x W) :
    YieldAt F (n - 1 - 1) P (w.heap.size+1) (encs x) W fun e W'=>e=.returned (.bool true)∧(I (pre++[x]) W'∧Stands w.heap.size r W')∧Kp W W':=by
 have hy:=run_yield (P:=P) (args:=encs x) hst.1 (by rw [hr];exact hps x);rw [hr] at hy;refine ⟨fn,_,assign,body,hy,roundIn_of_wpIn hfn (hassign _ pre x W _ hi hG ?_)⟩;intro a' Wa hka hkp hia hax;have hs1:=hst.keeps hka;refine ⟨_,run_beginRound hs1.1 (by rw [hr]),?_⟩;have hs2:=hs1.put { r with state:=.busy };have hk2:Kp Wa _:=hKb Wa (w.heap.size+1) _ (.loop { r with state:=.busy }) (by omega) hs1.1 rfl rfl;refine wpIn_mono (hbody _ pre x a' _ (hI.putObj _ hia (by omega) hs1.1 rfl) ((hAx pre x a').putObj (s:=()) _ hax (by omega) hs1.1 rfl)) ?_;rintro e a3 W3 ⟨rfl,hk3,hkp3,hi3⟩;have hs3:=hs2.keeps hk3;have he:=run_endRound (P:=P) none hs3.1;have er:({ r with state:=.busy }:Loop)={ r with state:=.busy }:=rfl;have e4:({ ({ r with state:=.busy }:Loop) with state:=if (none:Option Code).isNone then .ready else .done,pending:=none }:Loop)=r:=by rw [hr];rfl
 rw [e4] at he;exact ⟨_,_,he,rfl,⟨hI.putObj _ hi3 (by omega) hs3.1 rfl,hs3.put r⟩,hKt hkp (hKt hk2 (hKt hkp3 (hKb W3 (w.heap.size+1) _ _ (by omega) hs3.1 rfl rfl)))⟩
theorem wpIn_range_pays (hro:F.round=none) (h1:1≤n) (hg:a.eval g=.func (.func gf) #[] lb) (hFg:F.fn gf) (eg:∀ args w,(callFunc gf args).run P w=.ok (.enter gf args) w)
    (hseq:Pays F (n - 1) P gf lb encs Kp Gd S w0) (hKt:∀ {A B C:World},Kp A B→Kp B C→Kp A C) (hKb:∀ (W:World) (l:Nat) (o o':Obj),w.heap.size≤l→W.heap[l]? = some o→o.isCells=false→o.isWalk=false→Kp W (W.putObj l o')) (hb0:Below w0.heap.size w0 w) (hps:∀ x,(encs x).size=ps.size)
    (I:List α→World→Prop) (hI:OwnFrom w.heap.size I) (h0:I [] w) (hS:OwnFrom w.heap.size S) (Ax:List α→α→Act→World→Prop) (hAx:∀ pre x a',OwnFrom w.heap.size (fun (_:Unit) W=>Ax pre x a' W))
    (hassign:∀ (l:Nat) (pre:List α) (x:α) (W:World) (K:Act→World→Prop),I pre W→Gd pre x W→(∀ a' W',KeepsFrom w.heap.size W W'→Kp W W'→I pre W'→Ax pre x a' W'→K a' W') →
     assign.wpIn (F.inRound l) (n - 1 - 1) P (Exit.then K (fun _ _ _=>False)) { tmps:=(ps.zip (encs x)).foldl (fun t (p,v)=>t.setIfInBounds p v) a.tmps,defers:=[] } W)
    (hbody:∀ (l:Nat) (pre:List α) (x:α) (a':Act) (W:World),I pre W→Ax pre x a' W→body.wpIn (F.inRound l) (n - 1 - 1) P (fun e _ W'=>e=.normal∧KeepsFrom w.heap.size W W'∧Kp W W'∧I (pre++[x]) W') a' W)
    (hdone:∀ (D:Nat) (xs:List α) (W:World),w.heap.size≤D→S xs W→I xs W→W.heap[D]? = some (.deferred (some []))→Q .normal { a with defers:={ target:=.collected D,args:=#[] } :: a.defers } W) :
    (Code.rangeFunc g ps assign body).wpIn F n P Q a w:=by
 refine wpIn_rangeFunc fun fn hfn => ?_;obtain ⟨r,hr⟩:∃ r:Loop,r={ state:=.ready,pending:=none,fn,tmps:=a.tmps,params:=ps,assign,body,defers:=w.heap.size }:=⟨_,rfl⟩;have hs0:Stands w.heap.size r ((w.alloc (.deferred (some []))).alloc (.loop r)):=by
  refine ⟨?_,(Below.heap_alloc _ _ _ (by simp)).trans (World.alloc_heap_new w _)⟩;have:=World.alloc_heap_new (w.alloc (.deferred (some []))) (.loop r)
  rwa [World.size_alloc] at this
 have hi0:I [] ((w.alloc (.deferred (some []))).alloc (.loop r)):=hI.alloc _ (hI.alloc _ h0);have hb1:Below w0.heap.size w0 ((w.alloc (.deferred (some []))).alloc (.loop r)):=hb0.trans ((((Below.refl _ w).alloc (Nat.le_refl _) _).alloc (by simp) _).mono hb0.size);have hz:w.heap.size≤((w.alloc (.deferred (some []))).alloc (.loop r)).heap.size:=by simp;omega
 have he:(Instr.enterLoop fn a.tmps ps assign body F.round).run P w=.ok (w.heap.size+1,[{ target:=.collected w.heap.size,args:=#[] }]) ((w.alloc (.deferred (some []))).alloc (.loop r)):=by
  rw [hro,hr];exact run_enterLoop_outer _ _ _ _ _
 generalize (w.alloc (.deferred (some []))).alloc (.loop r)=W1 at *;refine ⟨w.heap.size+1,_,W1,{ target:=.fn (.func gf) lb,args:=#[.func (.yield (w.heap.size+1)) #[] #[]] },W1,gf,#[.func (.yield (w.heap.size+1)) #[] #[]]++lb,W1,he,?_,?_,?_,fun _=>h1,?_⟩
 · simp only [resolve,hg]
   simp [go_sem]
 · intro f' hf';simp [Target.leads] at hf';subst hf';exact hFg
 · simp [invoke,go_sem,eg]
 · have hwalk:∀ {A:World} {row:Option Nat},(∀ k,row=some k→W1.heap.size≤k∧∃ o:Obj,A.heap[k]? = some o∧o.isWalk=true)→(∀ k,row=some k→w.heap.size≤k∧∃ o:Obj,A.heap[k]? = some o∧o.isCells=false):=
    fun h k e=>by obtain ⟨hB,o,ho,hw⟩:=h k e;exact ⟨by omega,o,ho,Obj.not_cells_of_walk hw⟩
   refine (hseq (w.heap.size+1) (fun pre W=>I pre W∧Stands w.heap.size r W) W1 hb1 (fun s A B row hs hg' hrow=>⟨hI s A B row hs.1 hg' (hwalk hrow),hs.2.grown hg' (fun k e=>(hrow k e).2)⟩)
    (fun pre x W hJ hG=>round_pays (n:=n) (P:=P) (w:=w) (a:=a) (Kp:=Kp) (Gd:=Gd) hfn hr (fun h h'=>hKt h h') hKb hps I hI Ax hAx hassign hbody pre x W hJ.1 hJ.2 hG) ⟨hi0,hs0⟩).mono ?_
   rintro e W2 ⟨⟨v,rfl⟩,xs,hxs,hi,hst⟩;have hend:=run_endLoop (P:=P) hst.1 (by rw [hr];simp);have hp:r.pending=none:=by rw [hr]
   rw [hp] at hend;exact ⟨none,_,hend,hdone _ xs _ (Nat.le_refl _) (hS.putObj _ hxs (by omega) hst.1 rfl) (hI.putObj _ hi (by omega) hst.1 rfl) ((World.putObj_heap_other (by omega)).trans hst.2)⟩
end
end
section
open Go.RowKit
/-- An iterator's word, where a round may say 'no more': then Jx holds, and the iterator ends. -/
def PaysX {α:Type} (F:Fence) (n:Nat) (P:Program) (g:Nat) (lb:Array Value) (encs:α→Array Value) (Kp:World→World→Prop) (Gd:List α→α→World→Prop) (S:List α→World→Prop) (Sp:List α→Prop) (w:World):Prop:=
 ∀ (l:Nat) (J Jx:List α→World→Prop) (W:World),Below w.heap.size w W→AbidesFrom W.heap.size J→AbidesFrom W.heap.size Jx →
  (∀ pre x W1,J pre W1→Gd pre x W1→YieldAt F (n - 1) P l (encs x) W1 fun e W'=>(e=.returned (.bool true)∧J (pre++[x]) W'∧Kp W1 W')∨(e=.returned (.bool false)∧Jx (pre++[x]) W')) →
  J [] W→CallsIn F n P g (#[.func (.yield l) #[] #[]]++lb) W fun e W'=>(∃ v,e=.returned v)∧((∃ xs,S xs W'∧J xs W')∨(∃ xs,Sp xs∧Jx xs W'))
variable {F:Fence} {n:Nat} {P:Program} {w:World}
section
variable {α:Type} {g:Operand} {ps:Array Tmp} {assign body:Code} {Q:Exit→Act→World→Prop} {a:Act} {gf:Nat} {lb:Array Value} {encs:α→Array Value} {Kp:World→World→Prop} {Gd:List α→α→World→Prop} {S:List α→World→Prop} {Sp:List α→Prop} {w0:World}
/-- How a round's end is told to the record. -/
theorem end_round {r:Loop} {L:Nat} {W3:World} (hs:Stands L { r with state:=.busy } W3) (hp:r.pending=none) (hst:r.state=.ready) (jump:Option Code) :
    (Instr.endRound (L+1) jump).run P W3=.ok (.bool jump.isNone) (W3.putObj (L+1) (.loop { r with state:=if jump.isNone then .ready else .done,pending:=jump })):=
 run_endRound (P:=P) (r:={ r with state:=.busy }) jump hs.1
theorem round_paysX {fn:FuncId} {r:Loop} (hfn:F.fn fn) (hr:r={ state:=.ready,pending:=none,fn,tmps:=a.tmps,params:=ps,assign,body,defers:=w.heap.size })
    (hKt:∀ {A B C:World},Kp A B→Kp B C→Kp A C) (hKb:∀ (W:World) (l:Nat) (o o':Obj),w.heap.size≤l→W.heap[l]? = some o→o.isCells=false→o.isWalk=false→Kp W (W.putObj l o')) (hps:∀ x,(encs x).size=ps.size)
    (I:List α→World→Prop) (hI:OwnFrom w.heap.size I) (Ix:Code→List α→World→Prop) (hIx:∀ c,OwnFrom w.heap.size (Ix c)) (Ax:List α→α→Act→World→Prop) (hAx:∀ pre x a',OwnFrom w.heap.size (fun (_:Unit) W=>Ax pre x a' W))
    (hassign:∀ (l:Nat) (pre:List α) (x:α) (W:World) (K:Act→World→Prop),I pre W→Gd pre x W→(∀ a' W',KeepsFrom w.heap.size W W'→Kp W W'→I pre W'→Ax pre x a' W'→K a' W') →
     assign.wpIn (F.inRound l) (n - 1 - 1) P (Exit.then K (fun _ _ _=>False)) { tmps:=(ps.zip (encs x)).foldl (fun t (p,v)=>t.setIfInBounds p v) a.tmps,defers:=[] } W)
    (hbody:∀ (l:Nat) (pre:List α) (x:α) (a':Act) (W:World),I pre W→Ax pre x a' W→body.wpIn (F.inRound l) (n - 1 - 1) P (ownPostG w.heap.size Kp I Ix (pre++[x]) W) a' W)
    (pre:List α) (x:α) (W:World) (hi:I pre W) (hst:Stands w.heap.size r W) (hG:Gd pre x W) :
    YieldAt F (n - 1 - 1) P (w.heap.size+1) (encs x) W fun e W'=>(e=.returned (.bool true)∧(I (pre++[x]) W'∧Stands w.heap.size r W')∧Kp W W')∨(e=.returned (.bool false)∧∃ c,Ix c (pre++[x]) W'∧Stands w.heap.size { r with state:=.done,pending:=some c } W'):=by
 have hy:=run_yield (P:=P) (args:=encs x) hst.1 (by rw [hr];exact hps x);rw [hr] at hy;refine ⟨fn,_,assign,body,hy,roundIn_of_wpIn hfn (hassign _ pre x W _ hi hG ?_)⟩;intro a' Wa hka hkp hia hax;have hs1:=hst.keeps hka;refine ⟨_,run_beginRound hs1.1 (by rw [hr]),?_⟩;have hs2:=hs1.put { r with state:=.busy };have hk2:Kp Wa _:=hKb Wa (w.heap.size+1) _ (.loop { r with state:=.busy }) (by omega) hs1.1 rfl rfl;refine wpIn_mono (hbody _ pre x a' _ (hI.putObj _ hia (by omega) hs1.1 rfl) ((hAx pre x a').putObj (s:=()) _ hax (by omega) hs1.1 rfl)) ?_;have hrd:r.state=.ready∧r.pending=none:=by rw [hr];exact ⟨rfl,rfl⟩
 have leave:∀ (c:Code) (W3:World),KeepsFrom w.heap.size (Wa.putObj (w.heap.size+1) (.loop { r with state:=.busy })) W3→Ix c (pre++[x]) W3→∃ v W4,(Instr.endRound (w.heap.size+1) (some c)).run P W3=.ok v W4 ∧
     ((Ending.returned v=.returned (.bool true)∧(I (pre++[x]) W4∧Stands w.heap.size r W4)∧Kp W W4)∨(Ending.returned v=.returned (.bool false)∧∃ c,Ix c (pre++[x]) W4∧Stands w.heap.size { r with state:=.done,pending:=some c } W4)):=fun c W3 hk3 hi3=>by
  have hs3:=hs2.keeps hk3;exact ⟨_,_,end_round hs3 hrd.2 hrd.1 (some c),Or.inr ⟨rfl,c,(hIx c).putObj _ hi3 (by omega) hs3.1 rfl,hs3.put _⟩⟩
 rintro e a3 W3 hp
 cases e with
 | normal=>
  obtain ⟨hk3,hkp3,hi3⟩:=hp;have hs3:=hs2.keeps hk3;have he:=end_round (P:=P) hs3 hrd.2 hrd.1 none;have e4:({ r with state:=if (none:Option Code).isNone then .ready else .done,pending:=none }:Loop)=r:=by rw [hr];rfl
  rw [e4] at he;exact ⟨_,_,he,Or.inl ⟨rfl,⟨hI.putObj _ hi3 (by omega) hs3.1 rfl,hs3.put r⟩,hKt hkp (hKt hk2 (hKt hkp3 (hKb W3 (w.heap.size+1) _ _ (by omega) hs3.1 rfl rfl)))⟩⟩
 | ret=>exact leave .ret W3 hp.1 hp.2
 | exit id=>exact leave (.exit id) W3 hp.1 hp.2
 | goto t=>exact leave (.goto t) W3 hp.1 hp.2
 | panic ch=>exact hp.elim
 | outgrown=>exact hp.elim
theorem wpIn_range_paysX (hro:F.round=none) (h1:1≤n) (hg:a.eval g=.func (.func gf) #[] lb) (hFg:F.fn gf) (eg:∀ args w,(callFunc gf args).run P w=.ok (.enter gf args) w)
    (hseq:PaysX F (n - 1) P gf lb encs Kp Gd S Sp w0) (hKt:∀ {A B C:World},Kp A B→Kp B C→Kp A C) (hKb:∀ (W:World) (l:Nat) (o o':Obj),w.heap.size≤l→W.heap[l]? = some o→o.isCells=false→o.isWalk=false→Kp W (W.putObj l o')) (hb0:Below w0.heap.size w0 w) (hps:∀ x,(encs x).size=ps.size)
    (I:List α→World→Prop) (hI:OwnFrom w.heap.size I) (h0:I [] w) (hS:OwnFrom w.heap.size S) (Ix:Code→List α→World→Prop) (hIx:∀ c,OwnFrom w.heap.size (Ix c)) (Ax:List α→α→Act→World→Prop) (hAx:∀ pre x a',OwnFrom w.heap.size (fun (_:Unit) W=>Ax pre x a' W))
    (hassign:∀ (l:Nat) (pre:List α) (x:α) (W:World) (K:Act→World→Prop),I pre W→Gd pre x W→(∀ a' W',KeepsFrom w.heap.size W W'→Kp W W'→I pre W'→Ax pre x a' W'→K a' W') →
     assign.wpIn (F.inRound l) (n - 1 - 1) P (Exit.then K (fun _ _ _=>False)) { tmps:=(ps.zip (encs x)).foldl (fun t (p,v)=>t.setIfInBounds p v) a.tmps,defers:=[] } W)
    (hbody:∀ (l:Nat) (pre:List α) (x:α) (a':Act) (W:World),I pre W→Ax pre x a' W→body.wpIn (F.inRound l) (n - 1 - 1) P (ownPostG w.heap.size Kp I Ix (pre++[x]) W) a' W)
    (hdone:∀ (D:Nat) (xs:List α) (W:World),w.heap.size≤D→S xs W→I xs W→W.heap[D]? = some (.deferred (some []))→Q .normal { a with defers:={ target:=.collected D,args:=#[] } :: a.defers } W)
    (hstop:∀ (D:Nat) (c:Code) (xs:List α) (W:World),w.heap.size≤D→Sp xs→Ix c xs W→W.heap[D]? = some (.deferred (some []))→c.wpIn F n P Q { a with defers:={ target:=.collected D,args:=#[] } :: a.defers } W) :
    (Code.rangeFunc g ps assign body).wpIn F n P Q a w:=by
 refine wpIn_rangeFunc fun fn hfn => ?_;obtain ⟨r,hr⟩:∃ r:Loop,r={ state:=.ready,pending:=none,fn,tmps:=a.tmps,params:=ps,assign,body,defers:=w.heap.size }:=⟨_,rfl⟩;have hs0:Stands w.heap.size r ((w.alloc (.deferred (some []))).alloc (.loop r)):=by
  refine ⟨?_,(Below.heap_alloc _ _ _ (by simp)).trans (World.alloc_heap_new w _)⟩;have:=World.alloc_heap_new (w.alloc (.deferred (some []))) (.loop r)
  rwa [World.size_alloc] at this
 have hi0:I [] ((w.alloc (.deferred (some []))).alloc (.loop r)):=hI.alloc _ (hI.alloc _ h0);have hb1:Below w0.heap.size w0 ((w.alloc (.deferred (some []))).alloc (.loop r)):=hb0.trans ((((Below.refl _ w).alloc (Nat.le_refl _) _).alloc (by simp) _).mono hb0.size);have hz:w.heap.size≤((w.alloc (.deferred (some []))).alloc (.loop r)).heap.size:=by simp;omega
 have he:(Instr.enterLoop fn a.tmps ps assign body F.round).run P w=.ok (w.heap.size+1,[{ target:=.collected w.heap.size,args:=#[] }]) ((w.alloc (.deferred (some []))).alloc (.loop r)):=by
  rw [hro,hr];exact run_enterLoop_outer _ _ _ _ _
 generalize (w.alloc (.deferred (some []))).alloc (.loop r)=W1 at *;refine ⟨w.heap.size+1,_,W1,{ target:=.fn (.func gf) lb,args:=#[.func (.yield (w.heap.size+1)) #[] #[]] },W1,gf,#[.func (.yield (w.heap.size+1)) #[] #[]]++lb,W1,he,?_,?_,?_,fun _=>h1,?_⟩
 · simp only [resolve,hg]
   simp [go_sem]
 · intro f' hf';simp [Target.leads] at hf';subst hf';exact hFg
 · simp [invoke,go_sem,eg]
 · have hwalk:∀ {A:World} {row:Option Nat},(∀ k,row=some k→W1.heap.size≤k∧∃ o:Obj,A.heap[k]? = some o∧o.isWalk=true)→(∀ k,row=some k→w.heap.size≤k∧∃ o:Obj,A.heap[k]? = some o∧o.isCells=false):=
    fun h k e=>by obtain ⟨hB,o,ho,hw⟩:=h k e;exact ⟨by omega,o,ho,Obj.not_cells_of_walk hw⟩
   refine (hseq (w.heap.size+1) (fun pre W=>I pre W∧Stands w.heap.size r W) (fun pre W=>∃ c,Ix c pre W∧Stands w.heap.size { r with state:=.done,pending:=some c } W) W1 hb1
    (fun s A B row hs hg' hrow=>⟨hI s A B row hs.1 hg' (hwalk hrow),hs.2.grown hg' (fun k e=>(hrow k e).2)⟩)
    (fun s A B row hs hg' hrow=>by obtain ⟨c,h1,h2⟩:=hs;exact ⟨c,hIx c s A B row h1 hg' (hwalk hrow),h2.grown hg' (fun k e=>(hrow k e).2)⟩)
    (fun pre x W hJ hG=>round_paysX (n:=n) (P:=P) (w:=w) (a:=a) (Kp:=Kp) (Gd:=Gd) hfn hr (fun h h'=>hKt h h') hKb hps I hI Ix hIx Ax hAx hassign hbody pre x W hJ.1 hJ.2 hG) ⟨hi0,hs0⟩).mono ?_
   rintro e W2 ⟨⟨v,rfl⟩,⟨xs,hxs,hi,hst⟩ | ⟨xs,hsp,c,hi,hst⟩⟩
   · have hend:=run_endLoop (P:=P) hst.1 (by rw [hr];simp)
     have hp:r.pending=none:=by rw [hr]
     rw [hp] at hend;exact ⟨none,_,hend,hdone _ xs _ (Nat.le_refl _) (hS.putObj _ hxs (by omega) hst.1 rfl) (hI.putObj _ hi (by omega) hst.1 rfl) ((World.putObj_heap_other (by omega)).trans hst.2)⟩
   · have hend:=run_endLoop (P:=P) hst.1 (by simp)
     exact ⟨some c,_,hend,hstop _ c xs _ (Nat.le_refl _) hsp ((hIx c).putObj _ hi (by omega) hst.1 rfl) ((World.putObj_heap_other (by omega)).trans hst.2)⟩
end
end
section
open Go.RowKit
/-- A block of cells. -/
def BoxA (w:World) (B ty:Nat) (xs:Array Value):Prop:=w.heap[B]? = some (.cells xs ty (0,0))
section
variable {w w':World} {B ty base:Nat} {xs:Array Value}
theorem boxA_new (w:World) (xs:Array Value) (ty:Nat):BoxA (w.alloc (.cells xs ty)) w.heap.size ty xs:=heap_alloc_new _ _
theorem BoxA.lt (h:BoxA w B ty xs):B<w.heap.size:=by
 unfold BoxA at h;exact (Array.getElem?_eq_some_iff.1 h).1
theorem BoxA.below (h:BoxA w B ty xs) (hb:Below base w w') (hB:B<base):BoxA w' B ty xs:=by
 unfold BoxA at *;rw [hb.block B hB];exact h
theorem BoxA.cell (h:BoxA w B ty xs) (i:Nat) {v:Value} (hv:xs[i]? = some v):w.cell? ⟨B,i,none⟩=some v:=by
 unfold BoxA at h;simp [World.cell?,h,hv]
theorem BoxA.frozen (h:BoxA w B ty xs) (i:Nat):w.frozen? ⟨B,i,none⟩=false:=by
 unfold BoxA at h;simp [World.frozen?,h]
end
theorem BoxA.num {w:World} {B ty:Nat} {b:Bool} {a1 a2:Option Addr} {n1 n2 c1 c2:Nat} (h:BoxA w B ty #[.int .u8 1,.bool b,.slice a1 n1 c1,.slice a2 n2 c2,.int .i32 0,.slice none 0 0]) :
    w.cell? ⟨B,0,none⟩=some (.int .u8 1)∧w.cell? ⟨B,1,none⟩=some (.bool b)∧w.cell? ⟨B,2,none⟩=some (.slice a1 n1 c1)∧w.cell? ⟨B,3,none⟩=some (.slice a2 n2 c2)∧w.cell? ⟨B,4,none⟩=some (.int .i32 0)∧w.cell? ⟨B,5,none⟩=some (.slice none 0 0):=
 ⟨h.cell 0 rfl,h.cell 1 rfl,h.cell 2 rfl,h.cell 3 rfl,h.cell 4 rfl,h.cell 5 rfl⟩
section
variable {w:World} {b:Bool} {a1 a2:Option Addr} {n1 n2 c1 c2:Nat}
theorem number_any :
    Calls Tryz.prog 31 #[.agg #[.bool b,.slice a1 n1 c1,.slice a2 n2 c2]] w fun e w'=>e=.returned (.agg #[.int .u8 1,.bool b,.slice a1 n1 c1,.slice a2 n2 c2,.int .i32 0,.slice none 0 0])∧Below w.heap.size w w':=by
 have hb:=boxA_new (w.alloc (.cells #[.bool b,.slice a1 n1 c1,.slice a2 n2 c2] 34)) #[.int .u8 1,.bool b,.slice a1 n1 c1,.slice a2 n2 c2,.int .i32 0,.slice none 0 0] 68;rw [World.size_alloc] at hb;have g:=((Below.refl w.heap.size w).alloc (Nat.le_refl _) (.cells #[.bool b,.slice a1 n1 c1,.slice a2 n2 c2] 34)).alloc (by simp) (.cells #[.int .u8 1,.bool b,.slice a1 n1 c1,.slice a2 n2 c2,.int .i32 0,.slice none 0 0] 68);go_enter Tryz.func31,Tryz.ntmps31;go_wp2
 obtain ⟨r0,r1,r2,r3,r4,r5⟩:=hb.num;refine bodyPost_ret (v:=.agg #[.int .u8 1,.bool b,.slice a1 n1 c1,.slice a2 n2 c2,.int .i32 0,.slice none 0 0]) (by simp [results,Tryz.results31,go_sem,r0,r1,r2,r3,r4,r5]) rfl ?_;exact ⟨rfl,g⟩
theorem scalar_any :
    Calls Tryz.prog 30 #[.agg #[.int .u8 1,.bool b,.slice a1 n1 c1,.slice a2 n2 c2,.int .i32 0,.slice none 0 0]] w fun e w'=>∃ k,e=.returned (.agg #[.slice none 0 0,.slice (some ⟨k,0,none⟩) 1 1])∧w.heap.size≤k∧BoxA w' k 68 #[.int .u8 1,.bool b,.slice a1 n1 c1,.slice a2 n2 c2,.int .i32 0,.slice none 0 0]∧Below w.heap.size w w':=by
 have g1:=(Below.refl w.heap.size w).alloc (Nat.le_refl _) (.cells #[.int .u8 1,.bool b,.slice a1 n1 c1,.slice a2 n2 c2,.int .i32 0,.slice none 0 0] 68);have g2:=g1.alloc (by simp) (.cells #[.slice none 0 0,.slice (some ⟨w.heap.size+1+1,0,none⟩) 1 1] 25);have g3:=g2.alloc (by simp;omega) (.cells #[.int .u8 1,.bool b,.slice a1 n1 c1,.slice a2 n2 c2,.int .i32 0,.slice none 0 0] 68);have hk:=boxA_new ((w.alloc (.cells #[.int .u8 1,.bool b,.slice a1 n1 c1,.slice a2 n2 c2,.int .i32 0,.slice none 0 0] 68)).alloc (.cells #[.slice none 0 0,.slice (some ⟨w.heap.size+1+1,0,none⟩) 1 1] 25)) #[.int .u8 1,.bool b,.slice a1 n1 c1,.slice a2 n2 c2,.int .i32 0,.slice none 0 0] 68;rw [World.size_alloc,World.size_alloc] at hk;have hb:=boxA_new (w.alloc (.cells #[.int .u8 1,.bool b,.slice a1 n1 c1,.slice a2 n2 c2,.int .i32 0,.slice none 0 0] 68)) #[.slice none 0 0,.slice (some ⟨w.heap.size+1+1,0,none⟩) 1 1] 25;have hb2:=hb.below (below_alloc _ (.cells #[.int .u8 1,.bool b,.slice a1 n1 c1,.slice a2 n2 c2,.int .i32 0,.slice none 0 0] 68)) (by simp);rw [World.size_alloc] at hb2;go_enter Tryz.func30,Tryz.ntmps30;go_wp2
 have r0:=hb2.cell 0 rfl;have r1:=hb2.cell 1 rfl;refine bodyPost_ret (v:=.agg #[.slice none 0 0,.slice (some ⟨w.heap.size+1+1,0,none⟩) 1 1]) (by simp [results,Tryz.results30,go_sem,r0,r1]) rfl ?_;exact ⟨_,rfl,by omega,hk,g3⟩
end
section
variable {w w':World} {B ty base:Nat} {u0 u1 u2 u3 u4 u5:Value}
theorem BoxA.set6 (h:BoxA w B ty #[u0,u1,u2,u3,u4,u5]) (v0 v1 v2 v3 v4 v5:Value):BoxA ((((((w.setCell ⟨B,0,none⟩ v0).setCell ⟨B,1,none⟩ v1).setCell ⟨B,2,none⟩ v2).setCell ⟨B,3,none⟩ v3).setCell ⟨B,4,none⟩ v4).setCell ⟨B,5,none⟩ v5) B ty #[v0,v1,v2,v3,v4,v5]:=by
 unfold BoxA at h ⊢;simp [World.setCell,Array.getElem?_modify,h]
theorem Below.set6 (h:Below base w w') (hB:base≤B) (v0 v1 v2 v3 v4 v5:Value):Below base w ((((((w'.setCell ⟨B,0,none⟩ v0).setCell ⟨B,1,none⟩ v1).setCell ⟨B,2,none⟩ v2).setCell ⟨B,3,none⟩ v3).setCell ⟨B,4,none⟩ v4).setCell ⟨B,5,none⟩ v5):=
 (((((h.setCell (p:=⟨B,0,none⟩) hB _).setCell (p:=⟨B,1,none⟩) hB _).setCell (p:=⟨B,2,none⟩) hB _).setCell (p:=⟨B,3,none⟩) hB _).setCell (p:=⟨B,4,none⟩) hB _).setCell (p:=⟨B,5,none⟩) hB _
theorem Own.set6 {v:Value} {xs:List Int} (h:Own base w v xs) (hB:B<base) (v0 v1 v2 v3 v4 v5:Value):Own base ((((((w.setCell ⟨B,0,none⟩ v0).setCell ⟨B,1,none⟩ v1).setCell ⟨B,2,none⟩ v2).setCell ⟨B,3,none⟩ v3).setCell ⟨B,4,none⟩ v4).setCell ⟨B,5,none⟩ v5) v xs:=by
 have e:v.ownBlock≠some B:=ownBlock_ne h hB;exact (((((h.setCell (a:=⟨B,0,none⟩) e _).setCell (a:=⟨B,1,none⟩) e _).setCell (a:=⟨B,2,none⟩) e _).setCell (a:=⟨B,3,none⟩) e _).setCell (a:=⟨B,4,none⟩) e _).setCell (a:=⟨B,5,none⟩) e _
end
theorem rd_parts' {B:Nat} {w:World} {a:Option Addr} {c:Nat} {xs:List Int} (h:Rd B w (.slice a xs.length c) xs):(a=none∧xs=[]∧c=0)∨∃ ad,a=some ad∧∀ j u,(xs.map (Value.int .u32))[j]? = some u→w.cell? (ad.add j)=some u:=by
 obtain ⟨_,a',c',e,h1,h2,h3,h4⟩:=h;have ea:a'=a∧c'=c:=by cases e;exact ⟨rfl,rfl⟩
 obtain ⟨rfl,rfl⟩:=ea
 cases a' with
 | none=>
  have:=h3 rfl;subst this;exact Or.inl ⟨rfl,List.eq_nil_of_length_eq_zero (by omega),rfl⟩
 | some ad=>
  refine Or.inr ⟨ad,rfl,?_⟩;rcases h4 with h4 | ⟨b,off,e2,_,hc⟩
  · have:xs=[]:=List.eq_nil_of_length_eq_zero h4
    subst this;intro j u h;simp at h
  · cases e2
    exact cells_news hc
/-- Limbs that are appended to none: their copy. -/
theorem append_nil_list {B:Nat} {w:World} {ops:Array Oper} {rest:List Oper} {o:Oper} {a:Act} {Q:Exit→Act→World→Prop} {a1:Option Addr} {c1:Nat} {ns:List Int} (hgd:o.guard=none) (s x:Operand)
    (ho:o.op=.call { callee:=.builtin .append,args:=#[s,x],argTypes:=#[32,32] }) (hs:a.eval s=.slice none 0 0) (hx:a.eval x=.slice a1 ns.length c1) (hR:Rd B w (.slice a1 ns.length c1) ns) (hl:ns.length*4≤140737488355328)
    (h:∀ x1 y1 w',Own w.heap.size w' (.slice x1 ns.length y1) ns→Below w.heap.size w w'→wpList Tryz.prog ops Q rest (a.put o.dst (.slice x1 ns.length y1)) w'):wpList Tryz.prog ops Q (o :: rest) a w:=by
 obtain ⟨i0,hi,hz0,hz1,hz2⟩:=info_parts info_u32;have hlim:=hR.lim;rcases rd_parts' hR with ⟨rfl,rfl,rfl⟩ | ⟨ad,rfl,hN⟩
 · exact wpList_append_own_none hgd s x 32 ho w.heap.size 92 i0 1 Tryz.underlying32 hi (.slice none 0 0) 0 [] hs (World.ownsRow_nil _ _ _ _) hx (h none 0 w ⟨lim_nil,World.ownsRow_nil _ _ _ _⟩ (Below.refl _ _))
 · refine wpList_append_own _ hgd s x 32 ho w.heap.size 92 i0 (.int .u32 0) 1 4 Tryz.underlying32 hi hz0 hz1 hz2 rfl (by decide) (.slice none 0 0) 0 [] hs (World.ownsRow_nil _ _ _ _) ad ns.length c1 (ns.map (Value.int .u32)) hx (by rw [List.length_map];omega) hN (ints_oneCell _ _) ?_ ?_ (Nat.le_refl _) ?_
   · unfold maxLen;omega
   · omega
   intro v' w2 hown hgrow _;rw [Nat.zero_add,List.nil_append] at hown;have o1:Own w.heap.size w2 v' ns:=⟨hlim,hown⟩;obtain ⟨x1,y1,rfl⟩:=o1.form;exact h x1 y1 w2 o1 ((Below.refl _ _).grown hgrow (Nat.le_refl _) (fun k h=>by cases h))
theorem copyLimbs_any {w:World} {a1:Option Addr} {c1:Nat} {ns:List Int} (h1:Rd w.heap.size w (.slice a1 ns.length c1) ns) (l1:ns.length*4≤140737488355328) :
    Calls Tryz.prog 45 #[.slice a1 ns.length c1] w fun e w'=>∃ x1 y1,e=.returned (.slice x1 ns.length y1)∧Own w.heap.size w' (.slice x1 ns.length y1) ns∧Below w.heap.size w w':=by
 go_enter Tryz.func45,Tryz.ntmps45
 go_wp2_with (at_builtin;refine append_nil_list rfl _ _ rfl rfl rfl h1 l1 ?_)
 intro x1 y1 w2 o1 k1;go_wp2
 go_ret
 exact ⟨x1,y1,rfl,o1,k1⟩
/-- An item: its kind, sign, limbs of both, character, boxes. An array: its lengths stand in ns, its items in kids. -/
inductive Tr where
 | mk (k:Int) (b:Bool) (ns ds:List Int) (c:Int) (kids:List Tr):Tr
def Tr.k:Tr→Int | .mk k _ _ _ _ _=>k
def Tr.b:Tr→Bool | .mk _ b _ _ _ _=>b
def Tr.ns:Tr→List Int | .mk _ _ ns _ _ _=>ns
def Tr.ds:Tr→List Int | .mk _ _ _ ds _ _=>ds
def Tr.c:Tr→Int | .mk _ _ _ _ c _=>c
def Tr.kids:Tr→List Tr | .mk _ _ _ _ _ l=>l
def tr0:Tr:=.mk 0 false [] [] 0 []
def arrT (sh:List Int) (its:List Tr):Tr:=.mk 0 false sh [] 0 its
def numT (b:Bool) (ns ds:List Int):Tr:=.mk 1 b ns ds 0 []
def charT (c:Int):Tr:=.mk 2 false [] [] c []
/-- The blocks that D tells are the same. -/
def Agree (D:Nat→Prop) (w w':World):Prop:=∀ g,D g→w'.heap[g]? = w.heap[g]?
theorem Agree.cell {D:Nat→Prop} {w w':World} (h:Agree D w w') {g o:Nat} (hg:D g):w'.cell? ⟨g,o,none⟩=w.cell? ⟨g,o,none⟩:=World.cell?_of_block (w:=w) (h g hg)
theorem Agree.of {D:Nat→Prop} {B:Nat} {w w':World} (h:Below B w w') (hD:∀ g,D g→g<B):Agree D w w':=fun g hg=>h.block g (hD g hg)
/-- A slice of limbs. -/
def RdL (D:Nat→Prop) (w:World) (v:Value) (xs:List Int):Prop:=
 lim xs∧∃ a cap,v=.slice a xs.length cap∧xs.length≤cap∧cap≤9223372036854775807∧(a=none→cap=0) ∧
  (xs.length=0∨∃ b off,a=some ⟨b,off,none⟩∧D b∧∀ j,j<xs.length→w.cell? ⟨b,off+j,none⟩=some (.int .u32 (xs.getD j 0)))
theorem RdL.imp {D D':Nat→Prop} {w w':World} {v:Value} {xs:List Int} (h:RdL D w v xs) (hD:∀ g,D g→D' g) (hb:Agree D w w'):RdL D' w' v xs:=by
 obtain ⟨h0,a,cap,rfl,h1,h2,h3,h4⟩:=h;refine ⟨h0,a,cap,rfl,h1,h2,h3,?_⟩;rcases h4 with h4 | ⟨b,off,rfl,hlt,hc⟩
 · exact Or.inl h4
 · exact Or.inr ⟨b,off,rfl,hD b hlt,fun j hj=>(hb.cell hlt).trans (hc j hj)⟩
theorem RdL.rd {D:Nat→Prop} {B:Nat} {w:World} {v:Value} {xs:List Int} (h:RdL D w v xs) (hD:∀ g,D g→g<B):Rd B w v xs:=by
 obtain ⟨h0,a,cap,rfl,h1,h2,h3,h4⟩:=h;refine ⟨h0,a,cap,rfl,h1,h2,h3,?_⟩;rcases h4 with h4 | ⟨b,off,rfl,hlt,hc⟩
 · exact Or.inl h4
 · exact Or.inr ⟨b,off,rfl,hD b hlt,hc⟩
theorem RdL.of_own {base:Nat} {w:World} {v:Value} {xs:List Int} (h:Own base w v xs):RdL (fun g=>base≤g∧g<w.heap.size) w v xs:=by
 obtain ⟨h0,hl,h | ⟨g,cap,cur,rfl,hg,hh,h1,h2,h3,h4⟩⟩:=h
 · obtain ⟨rfl,hz⟩:=h
   have:xs=[]:=List.eq_nil_of_length_eq_zero hz;subst this;exact ⟨h0,none,0,rfl,Nat.le_refl _,by omega,fun _=>rfl,Or.inl rfl⟩
 · refine ⟨h0,_,cap,rfl,h1,by unfold maxLen at h2;omega,(fun h=>by cases h),Or.inr ⟨g,0,rfl,⟨hg,(Array.getElem?_eq_some_iff.1 hh).1⟩,fun j hj => ?_⟩⟩
   have e:cur.toList[j]? = (xs.map (Value.int .u32))[j]?:=by rw [← h4,List.getElem?_take];simp;omega
   rw [getD_map_u32 xs j hj] at e;simp only [World.cell?,hh,Nat.zero_add];simpa using e
/-- A slice of ints. -/
def RdN (D:Nat→Prop) (w:World) (v:Value) (xs:List Int):Prop:=
 (∀ x∈xs,-9223372036854775808≤x∧x≤9223372036854775807)∧∃ a cap,v=.slice a xs.length cap∧xs.length≤cap∧cap≤9223372036854775807∧(a=none→cap=0) ∧
  (xs.length=0∨∃ b off,a=some ⟨b,off,none⟩∧D b∧∀ j,j<xs.length→w.cell? ⟨b,off+j,none⟩=some (.int .i64 (xs.getD j 0)))
theorem RdN.imp {D D':Nat→Prop} {w w':World} {v:Value} {xs:List Int} (h:RdN D w v xs) (hD:∀ g,D g→D' g) (hb:Agree D w w'):RdN D' w' v xs:=by
 obtain ⟨h0,a,cap,rfl,h1,h2,h3,h4⟩:=h;refine ⟨h0,a,cap,rfl,h1,h2,h3,?_⟩;rcases h4 with h4 | ⟨b,off,rfl,hlt,hc⟩
 · exact Or.inl h4
 · exact Or.inr ⟨b,off,rfl,hD b hlt,fun j hj=>(hb.cell hlt).trans (hc j hj)⟩
/-- A slice of n things: what is so of each, by its block, the slice's place in it, and its number. -/
def RowB (D:Nat→Prop) (n:Nat) (v:Value) (C:Nat→Nat→Nat→Prop):Prop:=
 ∃ a cap,v=.slice a n cap∧n≤cap∧cap≤9223372036854775807∧(a=none→cap=0)∧(n=0∨∃ g o,a=some ⟨g,o,none⟩∧D g∧∀ j,j<n→C g o j)
theorem RowB.imp {D D':Nat→Prop} {n:Nat} {v:Value} {C C':Nat→Nat→Nat→Prop} (h:RowB D n v C) (hD:∀ g,D g→D' g) (hC:∀ g o j,D g→j<n→C g o j→C' g o j):RowB D' n v C':=by
 obtain ⟨a,cap,rfl,h1,h2,h3,h4⟩:=h;refine ⟨a,cap,rfl,h1,h2,h3,?_⟩;rcases h4 with h4 | ⟨g,o,rfl,hlt,hc⟩
 · exact Or.inl h4
 · exact Or.inr ⟨g,o,rfl,hD g hlt,fun j hj=>hC g o j hlt hj (hc j hj)⟩
/-- What an item's slices are. -/
structure ItV (P:Value→Value→Tr→Prop) (D:Nat→Prop) (w:World) (a1:Option Addr) (c1:Nat) (a2:Option Addr) (c2:Nat) (a3:Option Addr) (c3:Nat) (t:Tr):Prop where
 rn:RdL D w (.slice a1 t.ns.length c1) t.ns
 rd:RdL D w (.slice a2 t.ds.length c2) t.ds
 bx:RowB D t.kids.length (.slice a3 t.kids.length c3) (fun g o j=>∃ x1 n1 y1 x2 n2 y2,w.cell? ⟨g,o+j*2,none⟩=some (.slice x1 n1 y1)∧w.cell? ⟨g,o+j*2+1,none⟩=some (.slice x2 n2 y2)∧P (.slice x1 n1 y1) (.slice x2 n2 y2) (t.kids.getD j tr0))
/-- An item's cells. -/
def ItC (P:Value→Value→Tr→Prop) (D:Nat→Prop) (w:World) (g o:Nat) (t:Tr):Prop:=
 ∃ a1 c1 a2 c2 a3 c3,(w.cell? ⟨g,o,none⟩=some (.int .u8 t.k)∧w.cell? ⟨g,o+1,none⟩=some (.bool t.b)∧w.cell? ⟨g,o+2,none⟩=some (.slice a1 t.ns.length c1)∧w.cell? ⟨g,o+3,none⟩=some (.slice a2 t.ds.length c2)∧w.cell? ⟨g,o+4,none⟩=some (.int .i32 t.c)∧w.cell? ⟨g,o+5,none⟩=some (.slice a3 t.kids.length c3))∧ItV P D w a1 c1 a2 c2 a3 c3 t
/-- An array's two slices, so many levels deep at most. -/
def ArV:Nat→(Nat→Prop)→World→Value→Value→Tr→Prop
 | 0,_,_,_,_,_=>False
 | f+1,D,w,v1,v2,t=>RdN D w v1 t.ns∧RowB D t.kids.length v2 (fun g o j=>ItC (ArV f D w) D w g (o+j*6) (t.kids.getD j tr0))
theorem ItV.imp {P P':Value→Value→Tr→Prop} {D D':Nat→Prop} {w w':World} {a1 a2 a3:Option Addr} {c1 c2 c3:Nat} {t:Tr} (h:ItV P D w a1 c1 a2 c2 a3 c3 t) (hD:∀ g,D g→D' g) (hb:Agree D w w') (hP:∀ v1 v2 t,P v1 v2 t→P' v1 v2 t):ItV P' D' w' a1 c1 a2 c2 a3 c3 t:=
 ⟨h.rn.imp hD hb,h.rd.imp hD hb,h.bx.imp hD (fun g o j hg hj ⟨x1,n1,y1,x2,n2,y2,e1,e2,e3⟩=>⟨x1,n1,y1,x2,n2,y2,(hb.cell hg).trans e1,(hb.cell hg).trans e2,hP _ _ _ e3⟩)⟩
theorem ItC.imp {P P':Value→Value→Tr→Prop} {D D':Nat→Prop} {w w':World} {g o:Nat} {t:Tr} (h:ItC P D w g o t) (hg:D g) (hD:∀ g,D g→D' g) (hb:Agree D w w') (hP:∀ v1 v2 t,P v1 v2 t→P' v1 v2 t):ItC P' D' w' g o t:=by
 obtain ⟨a1,c1,a2,c2,a3,c3,⟨e0,e1,e2,e3,e4,e5⟩,hv⟩:=h;exact ⟨a1,c1,a2,c2,a3,c3,⟨(hb.cell hg).trans e0,(hb.cell hg).trans e1,(hb.cell hg).trans e2,(hb.cell hg).trans e3,(hb.cell hg).trans e4,(hb.cell hg).trans e5⟩,hv.imp hD hb hP⟩
theorem ArV.imp {D D':Nat→Prop} {w w':World} (hD:∀ g,D g→D' g) (hb:Agree D w w'):∀ (f f':Nat) (v1 v2:Value) (t:Tr),f≤f'→ArV f D w v1 v2 t→ArV f' D' w' v1 v2 t
 | 0,_,_,_,_,_,h=>h.elim
 | f+1,0,_,_,_,hf,h=>by omega
 | f+1,f'+1,v1,v2,t,hf,h=>⟨h.1.imp hD hb,h.2.imp hD (fun g o j hg hj hc=>hc.imp hg hD hb (fun u1 u2 s hs=>ArV.imp hD hb f f' u1 u2 s (by omega) hs))⟩
theorem ArV.agree {D:Nat→Prop} {f:Nat} {w w':World} {v1 v2:Value} {t:Tr} (h:ArV f D w v1 v2 t) (hb:Agree D w w'):ArV f D w' v1 v2 t:=ArV.imp (fun _ h=>h) hb f f v1 v2 t (Nat.le_refl _) h
theorem ArV.mono {D D':Nat→Prop} {f:Nat} {w:World} {v1 v2:Value} {t:Tr} (h:ArV f D w v1 v2 t) (hD:∀ g,D g→D' g):ArV f D' w v1 v2 t:=ArV.imp hD (fun _ _=>rfl) f f v1 v2 t (Nat.le_refl _) h
theorem ArV.up {D:Nat→Prop} {f f':Nat} {w:World} {v1 v2:Value} {t:Tr} (h:ArV f D w v1 v2 t) (hf:f≤f'):ArV f' D w v1 v2 t:=ArV.imp (fun _ h=>h) (fun _ _=>rfl) f f' v1 v2 t hf h
theorem ItV.agree {D:Nat→Prop} {f:Nat} {w w':World} {a1 a2 a3:Option Addr} {c1 c2 c3:Nat} {t:Tr} (h:ItV (ArV f D w) D w a1 c1 a2 c2 a3 c3 t) (hb:Agree D w w'):ItV (ArV f D w') D w' a1 c1 a2 c2 a3 c3 t:=h.imp (fun _ h=>h) hb (fun _ _ _ h=>h.agree hb)
theorem RowB.len {D:Nat→Prop} {n m:Nat} {a:Option Addr} {c:Nat} {C:Nat→Nat→Nat→Prop} (h:RowB D n (.slice a m c) C):m=n:=by
 obtain ⟨a',c',e,_⟩:=h
 cases e;rfl
theorem RdN.len {D:Nat→Prop} {m:Nat} {w:World} {a:Option Addr} {c:Nat} {xs:List Int} (h:RdN D w (.slice a m c) xs):m=xs.length:=by
 obtain ⟨_,a',c',e,_⟩:=h
 cases e;rfl
theorem RowB.bounds {D:Nat→Prop} {n:Nat} {a:Option Addr} {c:Nat} {C:Nat→Nat→Nat→Prop} (h:RowB D n (.slice a n c) C):n≤c∧c≤9223372036854775807:=by
 obtain ⟨a',c',e,h1,h2,_⟩:=h
 cases e;exact ⟨h1,h2⟩
theorem RowB.ptr {D:Nat→Prop} {n:Nat} {a:Option Addr} {c:Nat} {C:Nat→Nat→Nat→Prop} (h:RowB D n (.slice a n c) C) (h0:0<n):∃ g o,a=some ⟨g,o,none⟩∧D g∧∀ j,j<n→C g o j:=by
 obtain ⟨a',c',e,_,_,_,h4⟩:=h
 cases e
 rcases h4 with h4 | h4
 · omega
 · exact h4
theorem RdN.bounds {D:Nat→Prop} {w:World} {a:Option Addr} {c:Nat} {xs:List Int} (h:RdN D w (.slice a xs.length c) xs):xs.length≤c∧c≤9223372036854775807:=by
 obtain ⟨_,a',c',e,h1,h2,_⟩:=h;obtain ⟨rfl,_,rfl⟩:=Value.slice.inj e;exact ⟨h1,h2⟩
theorem RdN.ptr {D:Nat→Prop} {w:World} {a:Option Addr} {c:Nat} {xs:List Int} (h:RdN D w (.slice a xs.length c) xs) (h0:0<xs.length):∃ g o,a=some ⟨g,o,none⟩∧D g∧∀ j,j<xs.length→w.cell? ⟨g,o+j,none⟩=some (.int .i64 (xs.getD j 0)):=by
 obtain ⟨_,a',c',e,_,_,_,h4⟩:=h;obtain ⟨rfl,_,rfl⟩:=Value.slice.inj e;rcases h4 with h4 | h4
 · omega
 · exact h4
theorem RdN.form {D:Nat→Prop} {w:World} {v:Value} {xs:List Int} (h:RdN D w v xs):∃ a c,v=.slice a xs.length c:=by
 obtain ⟨_,a',c',e,_⟩:=h;exact ⟨a',c',e⟩
/-- A result's variable. -/
structure RVar (w:World) (k:Nat):Prop where
 lt:k<w.heap.size
 box:Box3 w k 34 (.bool false) (.slice none 0 0) (.slice none 0 0)
theorem RVar.below {w w':World} {k:Nat} (h:RVar w k) (hb:Below w.heap.size w w'):RVar w' k:=⟨Nat.lt_of_lt_of_le h.lt hb.size,h.box.below hb h.lt⟩
theorem rvar_new (w:World):RVar (w.alloc (.cells #[.bool false,.slice none 0 0,.slice none 0 0] 34)) w.heap.size:=⟨by simp,box3_new _ _ _ _ _⟩
theorem one_val:val [(1:Int)]=1:=by decide
section
variable {B:Nat} {w:World} {bx:Bool} {a1 a2:Option Addr} {c1 c2:Nat} {xn xd:List Int}
end
theorem of_can (n:Int) (h0:0≤n) (h1:n<18446744073709551616):can (tr [n % 4294967296,n/4294967296])∧val (tr [n % 4294967296,n/4294967296])=n∧(tr [n % 4294967296,n/4294967296]).length≤2:=by
 refine ⟨tr_can (fun x hx=>by simp at hx;omega),?_,?_⟩
 · rw [val_tr];simp [val];omega
 · have:=tr_length_le [n % 4294967296,n/4294967296]
   simpa using this
theorem of_num (n:Int) (h0:0≤n) (h1:n<18446744073709551616) (w:World):Calls Tryz.prog 51 #[.int .u64 n] w fun e w'=>∃ ns,can ns∧Hid (val ns=n)∧ns.length≤2∧Makes w e w' ns:=by
 refine (of_any n h0 h1 w).mono ?_;intro e w' h;have hc:=of_can n h0 h1;exact ⟨_,hc.1,hc.2.1,hc.2.2,h⟩
/-- A whole number as a number. -/
def WholeIs (k:Int) (b:Bool) (ns ds:List Int):Prop:=b=decide (k<0)∧can ns∧val ns=(if k<0 then -k else k)∧ns.length≤2∧ds=[1]
theorem WholeIs.right {k:Int} {b:Bool} {ns ds:List Int} (h:WholeIs k b ns ds):RightP b ns ds:=by
 obtain ⟨rfl,cn,vn,ln,rfl⟩:=h;refine ⟨by omega,by simp,cn,can_one,?_,by simp,by rw [one_val];exact gI_one_right _⟩;rintro ⟨hb,hz⟩;rw [(can_zero cn).1 hz] at vn;rw [decide_eq_true_iff] at hb;rw [if_pos hb] at vn;omega
theorem WholeIs.sg {k:Int} {b:Bool} {ns ds:List Int} (h:WholeIs k b ns ds):sg b (val ns)=k∧val ds=1:=by
 obtain ⟨rfl,cn,vn,ln,rfl⟩:=h;refine ⟨?_,one_val⟩;rw [vn];by_cases hk:k<0
 · rw [decide_eq_true hk,if_pos hk];simp [Go.Proofs.YtheaeggecpfcbaaGreat.sg]
 · rw [decide_eq_false hk,if_neg hk];rfl
/-- A whole number's answer. -/
def WholeNum (w:World) (k:Int) (e:Ending) (w':World):Prop:=
 Below w.heap.size w w'∧∃ b ns ds a1 c1 a2 c2,Hid (WholeIs k b ns ds)∧e=.returned (.agg #[.bool b,.slice a1 ns.length c1,.slice a2 ds.length c2])∧Own w.heap.size w' (.slice a1 ns.length c1) ns∧Own w.heap.size w' (.slice a2 ds.length c2) ds
theorem ofInt_any (k:Int) (h0:-9223372036854775808≤k) (h1:k<9223372036854775808) (w:World):Calls Tryz.prog 32 #[.int .i64 k] w fun e w'=>WholeNum w k e w':=by
 have R:=rvar_new w;have g:=below_alloc w (.cells #[.bool false,.slice none 0 0,.slice none 0 0] 34);go_enter Tryz.func32,Tryz.ntmps32;by_cases hk:k<0
 · have hkb:decide (k<0)=true:=decide_eq_true hk
   have hw:IntKind.u64.wrap (-IntKind.u64.wrap k) = -k:=by rw [IntKind.wrap_u64,IntKind.wrap_u64];omega
   go_wp2_with fail
   generalize hA:w.alloc (.cells #[.bool false,.slice none 0 0,.slice none 0 0] 34)=v at *;clear hA;refine (of_num (-k) (by omega) (by omega) _).mono ?_;rintro e wa ⟨ns,cn,vn,ln,x1,y1,rfl,o1,ka⟩
   go_wp2_with fail
   refine (one_any _).mono ?_;rintro e wb ⟨x2,y2,hb,o2,kb⟩;obtain ⟨ds,hds⟩:∃ ds:List Int,ds=[1]:=⟨_,rfl⟩;rw [← hds] at hb o2;subst hb;have HD:Hid (ds=[1]):=hds;clear hds;have t:Below v.heap.size v wb:=ka.trans (kb.mono ka.size);have Rb:=R.below t;have q0:=Rb.box.c0;have q1:=Rb.box.c1;have q2:=Rb.box.c2;have p0:=Rb.box.f0;have p1:=Rb.box.f1;have p2:=Rb.box.f2;go_wp2
   have hR3:=Rb.box.set (.bool true) (.slice x1 ns.length y1) (.slice x2 ds.length y2);have r0:=hR3.c0;have r1:=hR3.c1;have r2:=hR3.c2;refine bodyPost_ret (v:=.agg #[.bool true,.slice x1 ns.length y1,.slice x2 ds.length y2]) (by simp [results,Tryz.results32,go_sem,r0,r1,r2]) rfl ?_;exact ⟨Below.set3 (g.trans (t.mono g.size)) (Nat.le_refl _) _ _ _,true,ns,ds,x1,y1,x2,y2,⟨hkb.symm,cn,by rw [vn.out,if_pos hk],ln,HD.out⟩,rfl,(Own.set3 (o1.below kb (Nat.le_refl _)) R.lt _ _ _).mono g.size,(Own.set3 (o2.mono ka.size) R.lt _ _ _).mono g.size⟩
 · have hkb:decide (k<0)=false:=decide_eq_false hk
   go_wp2_with fail
   generalize hA:w.alloc (.cells #[.bool false,.slice none 0 0,.slice none 0 0] 34)=v at *;clear hA;refine (of_num k (by omega) (by omega) _).mono ?_;rintro e wa ⟨ns,cn,vn,ln,x1,y1,rfl,o1,ka⟩
   go_wp2_with fail
   refine (one_any _).mono ?_;rintro e wb ⟨x2,y2,hb,o2,kb⟩;obtain ⟨ds,hds⟩:∃ ds:List Int,ds=[1]:=⟨_,rfl⟩;rw [← hds] at hb o2;subst hb;have HD:Hid (ds=[1]):=hds;clear hds;have t:Below v.heap.size v wb:=ka.trans (kb.mono ka.size);have Rb:=R.below t;have q0:=Rb.box.c0;have q1:=Rb.box.c1;have q2:=Rb.box.c2;have p0:=Rb.box.f0;have p1:=Rb.box.f1;have p2:=Rb.box.f2;go_wp2
   have hR3:=Rb.box.set (.bool false) (.slice x1 ns.length y1) (.slice x2 ds.length y2);have r0:=hR3.c0;have r1:=hR3.c1;have r2:=hR3.c2;refine bodyPost_ret (v:=.agg #[.bool false,.slice x1 ns.length y1,.slice x2 ds.length y2]) (by simp [results,Tryz.results32,go_sem,r0,r1,r2]) rfl ?_;exact ⟨Below.set3 (g.trans (t.mono g.size)) (Nat.le_refl _) _ _ _,false,ns,ds,x1,y1,x2,y2,⟨hkb.symm,cn,by rw [vn.out,if_neg (by omega)],ln,HD.out⟩,rfl,(Own.set3 (o1.below kb (Nat.le_refl _)) R.lt _ _ _).mono g.size,(Own.set3 (o2.mono ka.size) R.lt _ _ _).mono g.size⟩
theorem one_num (w:World):Calls Tryz.prog 52 #[] w fun e w'=>∃ ds a c,Hid (ds=[(1:Int)])∧e=.returned (.slice a ds.length c)∧Own w.heap.size w' (.slice a ds.length c) ds∧Below w.heap.size w w':=
 (one_any w).mono (fun e w' ⟨a,c,he,ho,hb⟩=>⟨[1],a,c,rfl,he,ho,hb⟩)
section
variable {w:World} {a1 a2 a3 a4:Option Addr} {c1 c2 c3 c4:Nat} {xn xd yn yd:List Int}
end
/-- A number that is answered, in memory of its own. -/
def NumAns (w:World) (b:Bool) (ns ds:List Int) (e:Ending) (w':World):Prop:=
 Below w.heap.size w w'∧∃ x1 y1 x2 y2,e=.returned (.agg #[.bool b,.slice x1 ns.length y1,.slice x2 ds.length y2])∧Own w.heap.size w' (.slice x1 ns.length y1) ns∧Own w.heap.size w' (.slice x2 ds.length y2) ds
section
variable {w:World} {b:Bool} {a1 a2:Option Addr} {c1 c2:Nat} {ns ds:List Int}
theorem in1_new (w:World) (h1:Rd w.heap.size w (.slice a1 ns.length c1) ns) (h2:Rd w.heap.size w (.slice a2 ds.length c2) ds) :
    NVar ((w.alloc (.cells #[.bool b,.slice a1 ns.length c1,.slice a2 ds.length c2] 34)).alloc (.cells #[.bool false,.slice none 0 0,.slice none 0 0] 34)) w.heap.size b a1 ns c1 a2 ds c2∧RVar ((w.alloc (.cells #[.bool b,.slice a1 ns.length c1,.slice a2 ds.length c2] 34)).alloc (.cells #[.bool false,.slice none 0 0,.slice none 0 0] 34)) (w.heap.size+1)∧Below w.heap.size w ((w.alloc (.cells #[.bool b,.slice a1 ns.length c1,.slice a2 ds.length c2] 34)).alloc (.cells #[.bool false,.slice none 0 0,.slice none 0 0] 34)):=by
 have X:=nvar_new (b:=b) h1 h2;have R:=rvar_new (w.alloc (.cells #[.bool b,.slice a1 ns.length c1,.slice a2 ds.length c2] 34));have ka:=below_alloc (w.alloc (.cells #[.bool b,.slice a1 ns.length c1,.slice a2 ds.length c2] 34)) (.cells #[.bool false,.slice none 0 0,.slice none 0 0] 34);rw [World.size_alloc] at R;exact ⟨X.below ka,R,(below_alloc w _).alloc (by simp) _⟩
end
theorem rd_parts {B:Nat} {w:World} {a:Option Addr} {c:Nat} {xs:List Int} (h:Rd B w (.slice a xs.length c) xs):(a=none∧xs=[]∧c=0)∨∃ ad,a=some ad∧∀ j u,(xs.map (Value.int .u32))[j]? = some u→w.cell? (ad.add j)=some u:=by
 obtain ⟨_,a',c',e,h1,h2,h3,h4⟩:=h;have ea:a'=a∧c'=c:=by cases e;exact ⟨rfl,rfl⟩
 obtain ⟨rfl,rfl⟩:=ea
 cases a' with
 | none=>
  have:=h3 rfl;subst this;exact Or.inl ⟨rfl,List.eq_nil_of_length_eq_zero (by omega),rfl⟩
 | some ad=>
  refine Or.inr ⟨ad,rfl,?_⟩;rcases h4 with h4 | ⟨b,off,e2,_,hc⟩
  · have:xs=[]:=List.eq_nil_of_length_eq_zero h4
    subst this;intro j u h;simp at h
  · cases e2
    exact cells_news hc
/-- Limbs that are appended to none: their copy. -/
theorem append_nil_rd {B:Nat} {w:World} {ops:Array Oper} {rest:List Oper} {o:Oper} {a:Act} {Q:Exit→Act→World→Prop} {a1:Option Addr} {c1:Nat} {ns:List Int} (hgd:o.guard=none) (s x:Operand)
    (ho:o.op=.call { callee:=.builtin .append,args:=#[s,x],argTypes:=#[32,32] }) (hs:a.eval s=.slice none 0 0) (hx:a.eval x=.slice a1 ns.length c1) (hR:Rd B w (.slice a1 ns.length c1) ns) (hl:ns.length*4≤140737488355328)
    (h:∀ x1 y1 w',Own w.heap.size w' (.slice x1 ns.length y1) ns→Below w.heap.size w w'→wpList Tryz.prog ops Q rest (a.put o.dst (.slice x1 ns.length y1)) w'):wpList Tryz.prog ops Q (o :: rest) a w:=by
 obtain ⟨i0,hi,hz0,hz1,hz2⟩:=info_parts info_u32;have hlim:=hR.lim;rcases rd_parts hR with ⟨rfl,rfl,rfl⟩ | ⟨ad,rfl,hN⟩
 · exact wpList_append_own_none hgd s x 32 ho w.heap.size 92 i0 1 Tryz.underlying32 hi (.slice none 0 0) 0 [] hs (World.ownsRow_nil _ _ _ _) hx (h none 0 w ⟨lim_nil,World.ownsRow_nil _ _ _ _⟩ (Below.refl _ _))
 · refine wpList_append_own _ hgd s x 32 ho w.heap.size 92 i0 (.int .u32 0) 1 4 Tryz.underlying32 hi hz0 hz1 hz2 rfl (by decide) (.slice none 0 0) 0 [] hs (World.ownsRow_nil _ _ _ _) ad ns.length c1 (ns.map (Value.int .u32)) hx (by rw [List.length_map];omega) hN (ints_oneCell _ _) ?_ ?_ (Nat.le_refl _) ?_
   · unfold maxLen;omega
   · omega
   intro v' w2 hown hgrow _;rw [Nat.zero_add,List.nil_append] at hown;have o1:Own w.heap.size w2 v' ns:=⟨hlim,hown⟩;obtain ⟨x1,y1,rfl⟩:=o1.form;exact h x1 y1 w2 o1 ((Below.refl _ _).grown hgrow (Nat.le_refl _) (fun k h=>by cases h))
theorem Box3.set1 {w:World} {B ty:Nat} {p q r:Value} (h:Box3 w B ty p q r) (x:Value):Box3 (w.setCell ⟨B,1,none⟩ x) B ty p x r:=by
 unfold Box3 at h ⊢;simp [World.setCell,Array.getElem?_modify,h]
theorem Box3.set2 {w:World} {B ty:Nat} {p q r:Value} (h:Box3 w B ty p q r) (x:Value):Box3 (w.setCell ⟨B,2,none⟩ x) B ty p q x:=by
 unfold Box3 at h ⊢;simp [World.setCell,Array.getElem?_modify,h]
section
variable {w:World} {b:Bool} {a1 a2:Option Addr} {c1 c2:Nat} {ns ds:List Int}
theorem refCopy_any (h1:Rd w.heap.size w (.slice a1 ns.length c1) ns) (h2:Rd w.heap.size w (.slice a2 ds.length c2) ds) (l1:ns.length*4≤140737488355328) (l2:ds.length*4≤140737488355328) :
    Calls Tryz.prog 85 #[.agg #[.bool b,.slice a1 ns.length c1,.slice a2 ds.length c2]] w fun e w'=>NumAns w b ns ds e w':=by
 obtain ⟨X,R,g⟩:=in1_new (b:=b) w h1 h2;have s1:w.heap.size≤w.heap.size+1:=by omega
 clear h1 h2;have t1:=below_alloc ((w.alloc (.cells #[.bool b,.slice a1 ns.length c1,.slice a2 ds.length c2] 34)).alloc (.cells #[.bool false,.slice none 0 0,.slice none 0 0] 34)) (.cells #[.bool b,.slice none 0 0,.slice none 0 0] 34);have hvs:((w.alloc (.cells #[.bool b,.slice a1 ns.length c1,.slice a2 ds.length c2] 34)).alloc (.cells #[.bool false,.slice none 0 0,.slice none 0 0] 34)).heap.size=w.heap.size+1+1:=by rw [World.size_alloc,World.size_alloc]
 have Yb:=box3_new ((w.alloc (.cells #[.bool b,.slice a1 ns.length c1,.slice a2 ds.length c2] 34)).alloc (.cells #[.bool false,.slice none 0 0,.slice none 0 0] 34)) (.bool b) (.slice none 0 0) (.slice none 0 0) 34;rw [hvs] at Yb;have Ylt:w.heap.size+1+1<(((w.alloc (.cells #[.bool b,.slice a1 ns.length c1,.slice a2 ds.length c2] 34)).alloc (.cells #[.bool false,.slice none 0 0,.slice none 0 0] 34)).alloc (.cells #[.bool b,.slice none 0 0,.slice none 0 0] 34)).heap.size:=by rw [World.size_alloc _ (.cells #[.bool b,.slice none 0 0,.slice none 0 0] 34),hvs];omega
 have x0:=X.k0;obtain ⟨X0,X1,X2⟩:=(X.below t1).cells;have y0:=Yb.c0;have y1:=Yb.c1;have y2:=Yb.c2;have z0:=Yb.f0;have z1:=Yb.f1;have z2:=Yb.f2;go_enter Tryz.func85,Tryz.ntmps85
 go_wp2_with (at_builtin;refine append_nil_rd rfl _ _ rfl rfl rfl (X.below t1).rn l1 ?_)
 intro x5 y5 w2 o1' k1';have o1:Own (((w.alloc (.cells #[.bool b,.slice a1 ns.length c1,.slice a2 ds.length c2] 34)).alloc (.cells #[.bool false,.slice none 0 0,.slice none 0 0] 34)).alloc (.cells #[.bool b,.slice none 0 0,.slice none 0 0] 34)).heap.size w2 (.slice x5 ns.length y5) ns:=by simpa using o1'
 have k1:Below (((w.alloc (.cells #[.bool b,.slice a1 ns.length c1,.slice a2 ds.length c2] 34)).alloc (.cells #[.bool false,.slice none 0 0,.slice none 0 0] 34)).alloc (.cells #[.bool b,.slice none 0 0,.slice none 0 0] 34)).heap.size (((w.alloc (.cells #[.bool b,.slice a1 ns.length c1,.slice a2 ds.length c2] 34)).alloc (.cells #[.bool false,.slice none 0 0,.slice none 0 0] 34)).alloc (.cells #[.bool b,.slice none 0 0,.slice none 0 0] 34)) w2:=by simpa using k1'
 clear o1' k1';generalize hA:((w.alloc (.cells #[.bool b,.slice a1 ns.length c1,.slice a2 ds.length c2] 34)).alloc (.cells #[.bool false,.slice none 0 0,.slice none 0 0] 34))=v at *;clear hA;generalize hA:v.alloc (.cells #[.bool b,.slice none 0 0,.slice none 0 0] 34)=v1 at *;clear hA x0 X0 X1 X2 y0 y1 y2 z0 z1 z2;have Y2:=Yb.below k1 Ylt;have z1:=Y2.f1;have y1:=Y2.c1;have t2:Below v.heap.size v (w2.setCell ⟨w.heap.size+1+1,1,none⟩ (.slice x5 ns.length y5)):=(t1.trans (k1.mono t1.size)).setCell (p:=⟨w.heap.size+1+1,1,none⟩) (Nat.le_of_eq hvs) _;have Y3:=Y2.set1 (.slice x5 ns.length y5);have o2:Own v1.heap.size (w2.setCell ⟨w.heap.size+1+1,1,none⟩ (.slice x5 ns.length y5)) (.slice x5 ns.length y5) ns:=o1.setCell (a:=⟨w.heap.size+1+1,1,none⟩) (ownBlock_ne o1 Ylt) _;have s2:v1.heap.size≤(w2.setCell ⟨w.heap.size+1+1,1,none⟩ (.slice x5 ns.length y5)).heap.size:=by
  have:=k1.size;simpa [World.setCell] using this
 have y2:=Y3.c2;obtain ⟨X0,X1,X2⟩:=(X.below t2).cells
 go_wp2_with (at_builtin;refine append_nil_rd rfl _ _ rfl rfl rfl (X.below t2).rd l2 ?_)
 intro x6 y6 w4 o3' k3';have o3:Own (w2.setCell ⟨w.heap.size+1+1,1,none⟩ (.slice x5 ns.length y5)).heap.size w4 (.slice x6 ds.length y6) ds:=by simpa using o3'
 have k3:Below (w2.setCell ⟨w.heap.size+1+1,1,none⟩ (.slice x5 ns.length y5)).heap.size (w2.setCell ⟨w.heap.size+1+1,1,none⟩ (.slice x5 ns.length y5)) w4:=by simpa using k3'
 clear o3' k3';generalize hA:w2.setCell ⟨w.heap.size+1+1,1,none⟩ (.slice x5 ns.length y5)=w3 at *;clear hA z1 y1 y2 X0 X1 X2 o1 k1 Y2;have Ylt3:w.heap.size+1+1<w3.heap.size:=Nat.lt_of_lt_of_le Ylt s2;have Y4:=Y3.below k3 Ylt3;have z2:=Y4.f2;have y3:=Y4.c2;have o4:=o2.below k3 (Nat.le_refl _);have Y5:=Y4.set2 (.slice x6 ds.length y6);have t3:Below v.heap.size v (w4.setCell ⟨w.heap.size+1+1,2,none⟩ (.slice x6 ds.length y6)):=(t2.trans (k3.mono t2.size)).setCell (p:=⟨w.heap.size+1+1,2,none⟩) (Nat.le_of_eq hvs) _;have o5:Own v1.heap.size (w4.setCell ⟨w.heap.size+1+1,2,none⟩ (.slice x6 ds.length y6)) (.slice x5 ns.length y5) ns:=o4.setCell (a:=⟨w.heap.size+1+1,2,none⟩) (ownBlock_ne o4 Ylt) _;have o6:Own w3.heap.size (w4.setCell ⟨w.heap.size+1+1,2,none⟩ (.slice x6 ds.length y6)) (.slice x6 ds.length y6) ds:=o3.setCell (a:=⟨w.heap.size+1+1,2,none⟩) (ownBlock_ne o3 Ylt3) _;have y0:=Y5.c0;have y1:=Y5.c1;have y2:=Y5.c2;have R5:=R.below t3;have q0:=R5.box.c0;have q1:=R5.box.c1;have q2:=R5.box.c2;have p0:=R5.box.f0;have p1:=R5.box.f1;have p2:=R5.box.f2;go_wp2
 have hR3:=R5.box.set (.bool b) (.slice x5 ns.length y5) (.slice x6 ds.length y6);have r0:=hR3.c0;have r1:=hR3.c1;have r2:=hR3.c2;have RL1:w.heap.size+1<v1.heap.size:=Nat.lt_of_lt_of_le R.lt t1.size;have RL3:w.heap.size+1<w3.heap.size:=Nat.lt_of_lt_of_le RL1 s2;have hw1:w.heap.size≤v1.heap.size:=Nat.le_trans g.size t1.size;refine bodyPost_ret (v:=.agg #[.bool b,.slice x5 ns.length y5,.slice x6 ds.length y6]) (by simp [results,Tryz.results85,go_sem,r0,r1,r2]) rfl ?_;exact ⟨Below.set3 (g.trans (t3.mono g.size)) s1 _ _ _,x5,y5,x6,y6,rfl,(Own.set3 o5 RL1 _ _ _).mono hw1,(Own.set3 o6 RL3 _ _ _).mono (Nat.le_trans hw1 s2)⟩
end
theorem row_below {base B e size n:Nat} {w w':World} {v:Value} {xs:List Value} (h:w.ownsRow base e size v n xs) (hb:Below B w w') (hB:w.heap.size≤B):w'.ownsRow base e size v n xs:=by
 obtain ⟨h1,h | ⟨g,cap,cur,hv,hg,hh,r⟩⟩:=h
 · exact ⟨h1,Or.inl h⟩
 · exact ⟨h1,Or.inr ⟨g,cap,cur,hv,hg,by rw [hb.block g (Nat.lt_of_lt_of_le (lt_of_block hh) hB)];exact hh,r⟩⟩
theorem row_own {base e size n:Nat} {w:World} {v:Value} {xs:List Value} (h:w.ownsRow base e size v n xs):∀ g,v.ownBlock=some g→base≤g∧g<w.heap.size:=by
 intro g hg;obtain ⟨_,h | ⟨g',cap,cur,rfl,hb,hh,_⟩⟩:=h
 · rw [h.1] at hg;cases hg
 · cases hg
   exact ⟨hb,lt_of_block hh⟩
theorem row_form3 {W:World} {base e size n:Nat} {v:Value} {xs:List Value} (h:W.ownsRow base e size v n xs):∃ a cap,v=.slice a n cap:=by
 obtain ⟨_,h | ⟨g,cap,cur,rfl,_⟩⟩:=h
 · obtain ⟨rfl,rfl,_⟩:=h;exact ⟨_,_,rfl⟩
 · exact ⟨_,cap,rfl⟩
theorem boxA_grown {W W':World} {B ty:Nat} {xs:Array Value} {row:Option Nat} (h:BoxA W B ty xs) (hg:W.grownBy W' row) (hr:row≠some B):BoxA W' B ty xs:=by
 have hlt:=h.lt;unfold BoxA at h ⊢;rw [hg.block B hlt (fun e=>hr e.symm)];exact h
/-- The blocks that a row's elements point to: new ones, but for the row's own. -/
def FrR (Z:Nat) (W:World) (v:Value):Nat→Prop:=fun g=>Z≤g∧g<W.heap.size∧v.ownBlock≠some g
def cellsOf (xs:List Value) (size j:Nat):Nat→Option Value:=fun k=>xs[j*size+k]?
abbrev Elem:=(Nat→Prop)→World→(Nat→Option Value)→Nat→Prop
def ElemOK (size:Nat) (El:Elem):Prop:=(∀ (D D':Nat→Prop) (w w':World) (c c':Nat→Option Value) (j:Nat),(∀ g,D g→D' g)→Agree D w w'→(∀ k,k<size→c' k=c k)→El D w c j→El D' w' c' j)
/-- A row of elements. -/
def RowOf (e size:Nat) (El:Elem) (Z:Nat) (W:World) (v:Value) (n:Nat):Prop:=∃ xs,W.ownsRow Z e size v n xs∧∀ j,j<n→El (FrR Z W v) W (cellsOf xs size j) j
theorem RowOf.nil {e size:Nat} {El:Elem} {Z:Nat} {W:World}:RowOf e size El Z W (.slice none 0 0) 0:=⟨[],⟨by simp,Or.inl ⟨rfl,rfl⟩⟩,fun j hj=>by omega⟩
theorem RowOf.push {e size n Z:Nat} {El:Elem} {W wa w':World} {O:Obj} {v v':Value} {xs news:List Value} (hE:ElemOK size El) (ho:W.ownsRow Z e size v n xs) (he:∀ j,j<n→El (FrR Z W v) W (cellsOf xs size j) j)
    (hZ:Z≤W.heap.size) (k:Below W.heap.size W wa) (hl:news.length=size) (hn:El (fun g=>W.heap.size≤g∧g<wa.heap.size) wa (fun k=>news[k]?) n)
    (hr:w'.ownsRow Z e size v' (n+1) (xs++news)) (hg:(wa.alloc O).grownBy w' v.ownBlock) (hv:v'.ownBlock=v.ownBlock∨v'.ownBlock=some (wa.alloc O).heap.size):RowOf e size El Z w' v' (n+1):=by
 refine ⟨_,hr,fun j hj => ?_⟩;have s1:=k.size;have s2:=hg.size;rw [World.size_alloc] at s2;have hx:xs.length=n*size:=ho.1;by_cases hjn:j<n
 · refine hE _ _ _ _ _ _ _ ?_ ?_ ?_ (he j hjn)
   · rintro g ⟨g1,g2,g3⟩
     refine ⟨g1,by omega,?_⟩;rcases hv with hv | hv
     · rw [hv];exact g3
     · rw [hv,World.size_alloc];intro h;have:=Option.some.inj h;omega
   · rintro g ⟨g1,g2,g3⟩
     rw [hg.block g (by rw [World.size_alloc];omega) (fun h=>g3 h.symm),(below_alloc wa O).block g (by omega),k.block g g2]
   · intro q hq
     unfold cellsOf;have:j*size+q<xs.length:=by
      rw [hx];have:(j+1)*size≤n*size:=Nat.mul_le_mul_right _ (by omega);rw [Nat.add_mul] at this;omega
     rw [List.getElem?_append_left this]
 · obtain rfl:j=n:=by omega
   refine hE _ _ _ _ _ _ _ ?_ ?_ ?_ hn
   · rintro g ⟨g1,g2⟩
     refine ⟨by omega,by omega,?_⟩;intro h;rcases hv with hv | hv
     · rw [hv] at h;have:=(row_own ho g h).2;omega
     · rw [hv,World.size_alloc] at h;have:=Option.some.inj h;omega
   · rintro g ⟨g1,g2⟩
     rw [hg.block g (by rw [World.size_alloc];omega) (fun h=>by have:=(row_own ho g h.symm).2;omega),(below_alloc wa O).block g g2]
   · intro q hq
     unfold cellsOf;rw [List.getElem?_append_right (by omega),hx]
     congr 1
     omega
theorem RowOf.setCell {e size n Z:Nat} {El:Elem} {W:World} {v:Value} (hE:ElemOK size El) (h:RowOf e size El Z W v n) {a:Addr} (ha:a.block<Z) (u:Value):RowOf e size El Z (W.setCell a u) v n:=by
 obtain ⟨xs,ho,he⟩:=h;refine ⟨xs,ownsRow_setCell_other ho (fun h=>by have:=(row_own ho _ h).1;omega) u,fun j hj=>hE _ _ _ _ _ _ _ ?_ ?_ (fun _ _=>rfl) (he j hj)⟩
 · rintro g ⟨g1,g2,g3⟩
   exact ⟨g1,by simpa [World.setCell] using g2,g3⟩
 · rintro g ⟨g1,g2,g3⟩
   have hne:¬ a.block=g:=by omega
   simp [World.setCell,Array.getElem?_modify,hne]
theorem RowOf.below {e size n Z B:Nat} {El:Elem} {W W':World} {v:Value} (hE:ElemOK size El) (h:RowOf e size El Z W v n) (hb:Below B W W') (hB:W.heap.size≤B):RowOf e size El Z W' v n:=by
 obtain ⟨xs,ho,he⟩:=h;refine ⟨xs,row_below ho hb hB,fun j hj=>hE _ _ _ _ _ _ _ ?_ ?_ (fun _ _=>rfl) (he j hj)⟩
 · rintro g ⟨g1,g2,g3⟩
   exact ⟨g1,Nat.lt_of_lt_of_le g2 hb.size,g3⟩
 · rintro g ⟨g1,g2,g3⟩
   exact hb.block g (by omega)
/-- A round: a new element is made, appended, and the slice stored in the variable's block Y. -/
theorem row_round {e size n Z Y o B:Nat} {El:Elem} {V wc W wa w':World} {O:Obj} {v v' u:Value} {xs news:List Value} (hE:ElemOK size El) (ho:W.ownsRow Z e size v n xs) (he:∀ j,j<n→El (FrR Z W v) W (cellsOf xs size j) j)
    (hk:∀ g,g<Z→g≠Y→W.heap[g]? = wc.heap[g]?) (hb:Below B V W) (hZ:Z≤W.heap.size) (hY:B≤Y) (lY:Y<Z) (k:Below W.heap.size W wa) (hl:news.length=size) (hn:El (fun g=>W.heap.size≤g∧g<wa.heap.size) wa (fun k=>news[k]?) n)
    (hr:w'.ownsRow Z e size v' (n+1) (xs++news)) (hg:(wa.alloc O).grownBy w' v.ownBlock) (hv:v'.ownBlock=v.ownBlock∨v'.ownBlock=some (wa.alloc O).heap.size) :
    RowOf e size El Z (w'.setCell ⟨Y,o,none⟩ u) v' (n+1)∧Below B V (w'.setCell ⟨Y,o,none⟩ u)∧Z≤(w'.setCell ⟨Y,o,none⟩ u).heap.size∧∀ g,g<Z→g≠Y→(w'.setCell ⟨Y,o,none⟩ u).heap[g]? = wc.heap[g]?:=by
 have s1:=k.size;have s2:=hg.size;rw [World.size_alloc] at s2;have kA:=below_alloc wa O;have kw:Below B V w':=⟨hg.os.trans (kA.os.trans (k.os.trans hb.os)),hg.tape.trans (kA.tape.trans (k.tape.trans hb.tape)),hg.output.trans (kA.output.trans (k.output.trans hb.output)),by have:=hb.size;omega,fun g hgB=>by
  rw [hg.block g (by rw [World.size_alloc];omega) (fun h=>by have:=(row_own ho g h.symm).1;omega),kA.block g (by omega),k.block g (by omega),hb.block g hgB]⟩
 refine ⟨(RowOf.push hE ho he hZ k hl hn hr hg hv).setCell hE (a:=⟨Y,o,none⟩) lY u,kw.setCell (p:=⟨Y,o,none⟩) hY u,by simp [World.setCell];omega,fun g h1 h2 => ?_⟩;have hne:¬ Y=g:=fun h=>h2 h.symm;have e1:(w'.setCell ⟨Y,o,none⟩ u).heap[g]? = w'.heap[g]?:=by simp [World.setCell,Array.getElem?_modify,hne]
 rw [e1,hg.block g (by rw [World.size_alloc];omega) (fun h=>by have:=(row_own ho g h.symm).1;omega),kA.block g (by omega),k.block g (by omega),hk g h1 h2]
/-- Its cells. -/
theorem RowOf.rowB {e size n Z:Nat} {El:Elem} {W:World} {v:Value} {C:Nat→Nat→Nat→Prop} {D:Nat→Prop} (h:RowOf e size El Z W v n) (hD:∀ g,Z≤g→g<W.heap.size→D g)
    (hC:∀ g c j,j<n→El (FrR Z W v) W c j→(∀ k,k<size→c k=W.cell? ⟨g,0+j*size+k,none⟩)→C g 0 j):RowB D n v C:=by
 obtain ⟨xs,ho,he⟩:=h;have hrow:=ho;obtain ⟨h1,h | ⟨g,cap,cur,rfl,hg,hh,h2,h3,h4,h5⟩⟩:=ho
 · obtain ⟨rfl,rfl⟩:=h
   exact ⟨none,0,rfl,Nat.le_refl _,by omega,fun _=>rfl,Or.inl rfl⟩
 · refine ⟨_,cap,rfl,h2,by unfold maxLen at h3;omega,(fun h=>by cases h),Or.inr ⟨g,0,rfl,hD g hg (lt_of_block hh),fun j hj=>hC g _ j hj (he j hj) (fun k hk => ?_)⟩⟩
   have:(j+1)*size≤n*size:=Nat.mul_le_mul_right _ (by omega);rw [Nat.add_mul] at this;have e:=hrow.cellAt (j*size+k) (by omega);rw [Nat.zero_add];exact e.symm
/-- The elements of a box. -/
def ElA (f:Nat) (l:List Tr):Elem:=fun D w c j=>∃ x1 n1 y1 x2 n2 y2,c 0=some (.slice x1 n1 y1)∧c 1=some (.slice x2 n2 y2)∧ArV f D w (.slice x1 n1 y1) (.slice x2 n2 y2) (l.getD j tr0)
theorem elA_ok (f:Nat) (l:List Tr):ElemOK 2 (ElA f l):=by
 rintro D D' w w' c c' j hD hb hc ⟨x1,n1,y1,x2,n2,y2,e1,e2,e3⟩;exact ⟨x1,n1,y1,x2,n2,y2,(hc 0 (by omega)).trans e1,(hc 1 (by omega)).trans e2,ArV.imp hD hb f f _ _ _ (Nat.le_refl _) e3⟩
/-- The items of an array. -/
def ElI (f:Nat) (l:List Tr):Elem:=fun D w c j=>∃ a1 c1 a2 c2 a3 c3,(c 0=some (.int .u8 (l.getD j tr0).k)∧c 1=some (.bool (l.getD j tr0).b)∧c 2=some (.slice a1 (l.getD j tr0).ns.length c1)∧c 3=some (.slice a2 (l.getD j tr0).ds.length c2)∧c 4=some (.int .i32 (l.getD j tr0).c)∧c 5=some (.slice a3 (l.getD j tr0).kids.length c3))∧ItV (ArV f D w) D w a1 c1 a2 c2 a3 c3 (l.getD j tr0)
theorem elI_ok (f:Nat) (l:List Tr):ElemOK 6 (ElI f l):=by
 rintro D D' w w' c c' j hD hb hc ⟨a1,c1,a2,c2,a3,c3,⟨e0,e1,e2,e3,e4,e5⟩,hv⟩;exact ⟨a1,c1,a2,c2,a3,c3,⟨(hc 0 (by omega)).trans e0,(hc 1 (by omega)).trans e1,(hc 2 (by omega)).trans e2,(hc 3 (by omega)).trans e3,(hc 4 (by omega)).trans e4,(hc 5 (by omega)).trans e5⟩,hv.imp hD hb (fun _ _ _ h=>ArV.imp hD hb f f _ _ _ (Nat.le_refl _) h)⟩
theorem rowB_A {e n Z f:Nat} {l:List Tr} {W:World} {v:Value} {D:Nat→Prop} (h:RowOf e 2 (ElA f l) Z W v n) (hD:∀ g,Z≤g→g<W.heap.size→D g) :
    RowB D n v (fun g o j=>∃ x1 n1 y1 x2 n2 y2,W.cell? ⟨g,o+j*2,none⟩=some (.slice x1 n1 y1)∧W.cell? ⟨g,o+j*2+1,none⟩=some (.slice x2 n2 y2)∧ArV f D W (.slice x1 n1 y1) (.slice x2 n2 y2) (l.getD j tr0)):=
 h.rowB hD (fun g c j hj ⟨x1,n1,y1,x2,n2,y2,e1,e2,e3⟩ hc=>⟨x1,n1,y1,x2,n2,y2,(hc 0 (by omega)).symm.trans e1,(hc 1 (by omega)).symm.trans e2,e3.mono (fun g hg=>hD g hg.1 hg.2.1)⟩)
theorem rowB_I {e n Z f:Nat} {l:List Tr} {W:World} {v:Value} {D:Nat→Prop} (h:RowOf e 6 (ElI f l) Z W v n) (hD:∀ g,Z≤g→g<W.heap.size→D g) :
    RowB D n v (fun g o j=>ItC (ArV f D W) D W g (o+j*6) (l.getD j tr0)):=
 h.rowB hD (fun g c j hj ⟨a1,c1,a2,c2,a3,c3,⟨e0,e1,e2,e3,e4,e5⟩,hv⟩ hc=>⟨a1,c1,a2,c2,a3,c3,⟨(hc 0 (by omega)).symm.trans e0,(hc 1 (by omega)).symm.trans e1,(hc 2 (by omega)).symm.trans e2,(hc 3 (by omega)).symm.trans e3,(hc 4 (by omega)).symm.trans e4,(hc 5 (by omega)).symm.trans e5⟩,hv.imp (fun g hg=>hD g hg.1 hg.2.1) (fun _ _=>rfl) (fun _ _ _ h=>h.mono (fun g hg=>hD g hg.1 hg.2.1))⟩)
theorem cells_new (w:World) (xs:Array Value) (t:TypeId):∀ j u,xs.toList[j]? = some u→(w.alloc (.cells xs t)).cell? ((⟨w.heap.size,0,none⟩:Addr).add j)=some u:=by
 intro j u hj;simp only [Array.getElem?_toList] at hj;have h:=(boxA_new w xs t).cell (0+j) (v:=u) (by rw [Nat.zero_add];exact hj);rw [Nat.zero_add] at h;have e:((⟨w.heap.size,0,none⟩:Addr).add j)=⟨w.heap.size,j,none⟩:=by
  by_cases h0:j=0
  · subst h0;simp [Addr.add]
  · simp [Addr.add,h0]
 rw [e];exact h
/-- append onto a slice of the call's own, as one step of a region that draws; where the new row lies. -/
theorem step_append_at {P:Program} {ops:Array Oper} {o:Oper} {a:Act} {w:World} {K:Act→World→Prop} {Q:Exit→Act→World→Prop} {E:Prop} (hg:o.guard=none) (s x:Operand) (t:TypeId)
    (ho:o.op=.call { callee:=.builtin .append,args:=#[s,x],argTypes:=#[t,t] })
    (base:Nat) (e:TypeId) (i:TypeInfo) (z:Value) (size bytes:Nat) (ht:P.underlying t=some (.slice e)) (hi:P.info? e=some i) (hz:i.zero=some z)
    (hsize:i.size=size) (hby:i.bytes=bytes) (hzs:z.cells.size=size) (hsz:0<size)
    (v:Value) (n:Nat) (xs:List Value) (hs:a.eval s=v) (hown:w.ownsRow base e size v n xs)
    (ad:Addr) (m c:Nat) (news:List Value) (hx:a.eval x=.slice (some ad) m c) (hl:news.length=m*size) (hnews:∀ j u,news[j]? = some u→w.cell? (ad.add j)=some u) (h1:∀ u∈news,u.oneCell'=true)
    (h63:n+m≤maxLen) (hbytes:(n+m)*bytes≤140737488355328) (hbase:base≤w.heap.size)
    (hK:∀ v' w',w'.ownsRow base e size v' (n+m) (xs++news)→w.grownBy w' v.ownBlock→(v'.ownBlock=v.ownBlock∨v'.ownBlock=some w.heap.size)→K (a.put o.dst v') w') :
    if Region.wanted o (yielded ops a.tmps)=true then Oper.wp P o a w K Q else E:=by
 rw [if_pos (by simp [Region.wanted,hg])];obtain ⟨v',w',hr,h2,h3,h4,h5⟩:=run_append_own_at (P:=P) w base t o.type e i z size bytes ht hi hz hsize hby hzs hsz v n xs hown ad m c news hl hnews h1 h63 hbytes hbase;unfold Oper.wp execOp;simp only [ho,resolve,invoke,builtin,Sem.run_bind,Sem.run_pure,Result.andThen_ok,List.map_toArray,List.map_cons,List.map_nil,hs,hx,hr];exact hK v' w' h2 h3 h5
/-- No slice is longer than memory may be, so many levels down. -/
def smF:Nat→Tr→Prop
 | 0,_=>True
 | f+1,t=>t.ns.length*8≤140737488355328∧t.kids.length*96≤140737488355328∧∀ x∈t.kids,x.ns.length*4≤140737488355328∧x.ds.length*4≤140737488355328∧x.kids.length*48≤140737488355328∧∀ y∈x.kids,smF f y
def smI (f:Nat) (x:Tr):Prop:=x.ns.length*4≤140737488355328∧x.ds.length*4≤140737488355328∧x.kids.length*48≤140737488355328∧∀ y∈x.kids,smF f y
/-- Blocks that are new. -/
def Fr (n m:Nat):Nat→Prop:=fun g=>n≤g∧g<m
def CopyOK (f:Nat):Prop:=∀ (D:Nat→Prop) (W:World) (x1:Option Addr) (n1 y1:Nat) (x2:Option Addr) (n2 y2:Nat) (t:Tr),(∀ g,D g→g<W.heap.size)→ArV f D W (.slice x1 n1 y1) (.slice x2 n2 y2) t→smF f t →
 Calls Tryz.prog 27 #[.agg #[.slice x1 n1 y1,.slice x2 n2 y2]] W fun e w'=>∃ z1 m1 u1 z2 m2 u2,e=.returned (.agg #[.slice z1 m1 u1,.slice z2 m2 u2])∧ArV f (Fr W.heap.size w'.heap.size) w' (.slice z1 m1 u1) (.slice z2 m2 u2) t∧Below W.heap.size W w'
/-- The blocks of limbs. -/
def LimD (n m Y:Nat):Nat→Prop:=fun g=>n≤g∧g<m∧g≠Y
theorem limD_new {n m:Nat} {wa:World} {v:Value} {xs:List Int} (h:Own m wa v xs) (O:Obj) (e:n=m):RdL (LimD n (wa.alloc O).heap.size wa.heap.size) (wa.alloc O) v xs:=by
 subst e;refine (RdL.of_own h).imp (fun g hg=>⟨hg.1,by rw [World.size_alloc];have:=hg.2;omega,by have:=hg.2;omega⟩) (fun g hg=>(below_alloc wa O).block g hg.2)
theorem limD_old {n m:Nat} {wa:World} {v:Value} {xs:List Int} (h:Own m wa v xs) (e:n<m):RdL (LimD n wa.heap.size n) wa v xs:=
 (RdL.of_own h).imp (fun g hg=>⟨by have:=hg.1;omega,hg.2,by have:=hg.1;omega⟩) (fun _ _=>rfl)
theorem set6_other {w:World} {B g:Nat} (h:¬ B=g) (v0 v1 v2 v3 v4 v5:Value):((((((w.setCell ⟨B,0,none⟩ v0).setCell ⟨B,1,none⟩ v1).setCell ⟨B,2,none⟩ v2).setCell ⟨B,3,none⟩ v3).setCell ⟨B,4,none⟩ v4).setCell ⟨B,5,none⟩ v5).heap[g]? = w.heap[g]?:=by
 simp [World.setCell,Array.getElem?_modify,h]
theorem set6_size {w:World} {B:Nat} (v0 v1 v2 v3 v4 v5:Value):((((((w.setCell ⟨B,0,none⟩ v0).setCell ⟨B,1,none⟩ v1).setCell ⟨B,2,none⟩ v2).setCell ⟨B,3,none⟩ v3).setCell ⟨B,4,none⟩ v4).setCell ⟨B,5,none⟩ v5).heap.size=w.heap.size:=by
 simp [World.setCell]
theorem RowOf.set6 {e size n Z B:Nat} {El:Elem} {W:World} {v:Value} (hE:ElemOK size El) (h:RowOf e size El Z W v n) (ha:B<Z) (v0 v1 v2 v3 v4 v5:Value):RowOf e size El Z ((((((W.setCell ⟨B,0,none⟩ v0).setCell ⟨B,1,none⟩ v1).setCell ⟨B,2,none⟩ v2).setCell ⟨B,3,none⟩ v3).setCell ⟨B,4,none⟩ v4).setCell ⟨B,5,none⟩ v5) v n:=
 (((((h.setCell hE (a:=⟨B,0,none⟩) ha v0).setCell hE (a:=⟨B,1,none⟩) ha v1).setCell hE (a:=⟨B,2,none⟩) ha v2).setCell hE (a:=⟨B,3,none⟩) ha v3).setCell hE (a:=⟨B,4,none⟩) ha v4).setCell hE (a:=⟨B,5,none⟩) ha v5
theorem BoxA.set55 {w:World} {B ty:Nat} {u0 u1 u2 u3 u4 u5:Value} (h:BoxA w B ty #[u0,u1,u2,u3,u4,u5]) (v5:Value):BoxA (w.setCell ⟨B,5,none⟩ v5) B ty #[u0,u1,u2,u3,u4,v5]:=by
 unfold BoxA at h ⊢;simp [World.setCell,Array.getElem?_modify,h]
theorem info_arr:(Tryz.prog.info? 25).map (fun i=>(i.zero,i.size,i.bytes))=some (some (.agg #[.slice none 0 0,.slice none 0 0]),2,48):=by kernel_rfl
section
variable {D:Nat→Prop} {f:Nat} {w:World} {a1 a2 a3:Option Addr} {c1 c2 c3:Nat} {t:Tr}
theorem copyItem_step (hC:CopyOK f) (h:ItV (ArV f D w) D w a1 c1 a2 c2 a3 c3 t) (hD:∀ g,D g→g<w.heap.size) (hS:smI f t) :
    Calls Tryz.prog 49 #[.agg #[.int .u8 t.k,.bool t.b,.slice a1 t.ns.length c1,.slice a2 t.ds.length c2,.int .i32 t.c,.slice a3 t.kids.length c3]] w fun e w'=>∃ b1 d1 b2 d2 b3 d3,e=.returned (.agg #[.int .u8 t.k,.bool t.b,.slice b1 t.ns.length d1,.slice b2 t.ds.length d2,.int .i32 t.c,.slice b3 t.kids.length d3])∧ItV (ArV f (Fr w.heap.size w'.heap.size) w') (Fr w.heap.size w'.heap.size) w' b1 d1 b2 d2 b3 d3 t∧Below w.heap.size w w':=by
 have HC:Hid (CopyOK f):=hC;have H:Hid (ItV (ArV f D w) D w a1 c1 a2 c2 a3 c3 t):=h;have HD:Hid (∀ g,D g→g<w.heap.size):=hD;have HS:Hid (smI f t):=hS;have hs1:=hS.1;have hs2:=hS.2.1;have hs3:=hS.2.2.1;have bd3:=h.bx.bounds;have hr1:=h.rn.rd hD;have hr2:=h.rd.rd hD;clear hC h hD hS;have X0:=boxA_new w #[.int .u8 t.k,.bool t.b,.slice a1 t.ns.length c1,.slice a2 t.ds.length c2,.int .i32 t.c,.slice a3 t.kids.length c3] 68;have k0:=below_alloc w (.cells #[.int .u8 t.k,.bool t.b,.slice a1 t.ns.length c1,.slice a2 t.ds.length c2,.int .i32 t.c,.slice a3 t.kids.length c3] 68);have k1:=below_alloc (w.alloc (.cells #[.int .u8 t.k,.bool t.b,.slice a1 t.ns.length c1,.slice a2 t.ds.length c2,.int .i32 t.c,.slice a3 t.kids.length c3] 68)) (.cells #[.int .u8 0,.bool false,.slice none 0 0,.slice none 0 0,.int .i32 0,.slice none 0 0] 68);have R:=boxA_new (w.alloc (.cells #[.int .u8 t.k,.bool t.b,.slice a1 t.ns.length c1,.slice a2 t.ds.length c2,.int .i32 t.c,.slice a3 t.kids.length c3] 68)) #[.int .u8 0,.bool false,.slice none 0 0,.slice none 0 0,.int .i32 0,.slice none 0 0] 68;rw [World.size_alloc] at R;have X:=X0.below k1 (by simp);have g:Below w.heap.size w _:=k0.trans (k1.mono (by simp));have sv:((w.alloc (.cells #[.int .u8 t.k,.bool t.b,.slice a1 t.ns.length c1,.slice a2 t.ds.length c2,.int .i32 t.c,.slice a3 t.kids.length c3] 68)).alloc (.cells #[.int .u8 0,.bool false,.slice none 0 0,.slice none 0 0,.int .i32 0,.slice none 0 0] 68)).heap.size=w.heap.size+1+1:=by simp
 replace hr1:=hr1.below g;replace hr2:=hr2.below g;go_enter Tryz.func49,Tryz.ntmps49
 go_upto_region 1 with fail
 generalize hA:(w.alloc (.cells #[.int .u8 t.k,.bool t.b,.slice a1 t.ns.length c1,.slice a2 t.ds.length c2,.int .i32 t.c,.slice a3 t.kids.length c3] 68)).alloc (.cells #[.int .u8 0,.bool false,.slice none 0 0,.slice none 0 0,.int .i32 0,.slice none 0 0] 68)=v at *;clear hA k0 k1 X0;have lx:w.heap.size<v.heap.size:=by omega
 have lr:w.heap.size+1<v.heap.size:=by omega
 clear sv
 go_cut [3] from 5 to 12 (fun q wx=>∃ Y b1 d1 b2 d2,q=.pointer (some ⟨Y,0,none⟩)∧v.heap.size≤Y∧BoxA wx Y 68 #[.int .u8 t.k,.bool t.b,.slice b1 t.ns.length d1,.slice b2 t.ds.length d2,.int .i32 t.c,.slice none 0 0]∧RdL (LimD v.heap.size wx.heap.size Y) wx (.slice b1 t.ns.length d1) t.ns∧RdL (LimD v.heap.size wx.heap.size Y) wx (.slice b2 t.ds.length d2) t.ds∧Below v.heap.size v wx)
 case first=>
  have x0:=X.cell 0 rfl;have x1:=X.cell 1 rfl;have x2:=X.cell 2 rfl;have x3:=X.cell 3 rfl;have x4:=X.cell 4 rfl;have X3:=X.below (below_alloc v (.cells #[.int .u8 0,.bool false,.slice none 0 0,.slice none 0 0,.int .i32 0,.slice none 0 0] 68)) lx;have i0:=X3.cell 0 rfl;have i1:=X3.cell 1 rfl;have i2:=X3.cell 2 rfl;have i3:=X3.cell 3 rfl;have i4:=X3.cell 4 rfl;have d0:Below v.heap.size v v.drew:=⟨rfl,rfl,rfl,Nat.le_refl _,fun _ _=>rfl⟩;have e1:Rd v.drew.heap.size v.drew (.slice a1 t.ns.length c1) t.ns:=hr1.mono (by simp;omega);have e2:Rd v.drew.heap.size v.drew (.slice a2 t.ds.length c2) t.ds:=hr2.mono (by simp;omega);have f1:∀ O,Rd (v.alloc O).drew.heap.size (v.alloc O).drew (.slice a1 t.ns.length c1) t.ns:=fun O=>(hr1.below ((below_alloc v O).mono (by omega))).mono (by simp;omega);have f2:∀ O,Rd (v.alloc O).drew.heap.size (v.alloc O).drew (.slice a2 t.ds.length c2) t.ds:=fun O=>(hr2.below ((below_alloc v O).mono (by omega))).mono (by simp;omega)
  go_region_held3 (fun w'=>w'.cell? ⟨w.heap.size,0,none⟩=some (.int .u8 t.k)∧w'.cell? ⟨w.heap.size,1,none⟩=some (.bool t.b)∧w'.cell? ⟨w.heap.size,2,none⟩=some (.slice a1 t.ns.length c1)∧w'.cell? ⟨w.heap.size,3,none⟩=some (.slice a2 t.ds.length c2)∧w'.cell? ⟨w.heap.size,4,none⟩=some (.int .i32 t.c))
   ((go_keep;done))
   (first | (go_at_call 85;refine (refCopy_any (b:=t.b) e1 e2 (by omega) (by omega)).mono ?_;rintro e wa ⟨ka,z1,u1,z2,u2,rfl,o1,o2⟩;have kb:=below_undrew ka;have X1:=(show BoxA _ _ _ _ from X).below (show Below v.heap.size v wa from kb.mono (by simp)) (by omega);have lz:=X1.lt;have p0:=X1.cell 0 rfl;have p1:=X1.cell 1 rfl;have p2:=X1.cell 2 rfl;have p3:=X1.cell 3 rfl;have p4:=X1.cell 4 rfl;have nx:w.heap.size≠wa.heap.size:=(by omega);have nx1:wa.heap.size≠w.heap.size:=(by omega);have X2:=X1.below (below_alloc wa (.cells #[.int .u8 0,.bool false,.slice none 0 0,.slice none 0 0,.int .i32 0,.slice none 0 0] 68)) X1.lt;have j0:=X2.cell 0 rfl;have j1:=X2.cell 1 rfl;have j2:=X2.cell 2 rfl;have j3:=X2.cell 3 rfl;have j4:=X2.cell 4 rfl;have Y1:=boxA_new wa #[.int .u8 0,.bool false,.slice none 0 0,.slice none 0 0,.int .i32 0,.slice none 0 0] 68;have y0:=Y1.cell 0 rfl;have y1:=Y1.cell 1 rfl;have y2:=Y1.cell 2 rfl;have y3:=Y1.cell 3 rfl;have y4:=Y1.cell 4 rfl;have y5:=Y1.cell 5 rfl;have q0:=Y1.frozen 0;have q1:=Y1.frozen 1;have q2:=Y1.frozen 2;have q3:=Y1.frozen 3;have q4:=Y1.frozen 4;have q5:=Y1.frozen 5) | (go_at_call 85;refine (refCopy_any (b:=t.b) (f1 _) (f2 _) (by omega) (by omega)).mono ?_;rintro e wa ⟨ka,z1,u1,z2,u2,rfl,o1,o2⟩;have kb:=below_undrew ka;have X1:=(show BoxA _ _ _ _ from X).below (show Below v.heap.size v wa from (below_alloc v _).trans (kb.mono (by simp))) (by omega);have lz:=X1.lt;have p0:=X1.cell 0 rfl;have p1:=X1.cell 1 rfl;have p2:=X1.cell 2 rfl;have p3:=X1.cell 3 rfl;have p4:=X1.cell 4 rfl;have nx:w.heap.size≠v.heap.size:=(by omega);have nx1:v.heap.size≠w.heap.size:=(by omega);have Y1:=(boxA_new v #[.int .u8 0,.bool false,.slice none 0 0,.slice none 0 0,.int .i32 0,.slice none 0 0] 68).below kb (by simp);have y0:=Y1.cell 0 rfl;have y1:=Y1.cell 1 rfl;have y2:=Y1.cell 2 rfl;have y3:=Y1.cell 3 rfl;have y4:=Y1.cell 4 rfl;have y5:=Y1.cell 5 rfl;have q0:=Y1.frozen 0;have q1:=Y1.frozen 1;have q2:=Y1.frozen 2;have q3:=Y1.frozen 3;have q4:=Y1.frozen 4;have q5:=Y1.frozen 5))
  all_goals
   go_wp2_with fail
   go_meet
   first
    | exact ⟨wa.heap.size,z1,u1,z2,u2,rfl,kb.size,boxA_new wa _ _,limD_new o1 _ rfl,limD_new o2 _ rfl,(kb.mono (by simp)).trans ((below_alloc wa _).mono kb.size)⟩
    | exact ⟨v.heap.size,z1,u1,z2,u2,rfl,Nat.le_refl _,Y1.set6 _ _ _ _ _ _,limD_old (o1.set6 (by simp) _ _ _ _ _ _) (by simp),limD_old (o2.set6 (by simp) _ _ _ _ _ _) (by simp),Below.set6 ((below_alloc v _).trans (kb.mono (by simp))) (Nat.le_refl _) _ _ _ _ _ _⟩
 case rest=>
  obtain ⟨Y,b1,d1,b2,d2,rfl,hY,B,r1,r2,k⟩:=hcut;clear hr1 hr2;have R1:Hid (RdL (LimD v.heap.size wc.heap.size Y) wc (.slice b1 t.ns.length d1) t.ns):=r1;have R2:Hid (RdL (LimD v.heap.size wc.heap.size Y) wc (.slice b2 t.ds.length d2) t.ds):=r2;have lY:=B.lt;clear r1 r2;obtain ⟨i0,hi,hz0,hz1,hz2⟩:=info_parts info_arr
  go_wp2_with fail
  go_loopw [4] (fun iv wr=>∃ (i:Nat) (b3:Option Addr) (d3:Nat),iv=.int .i64 i∧i≤t.kids.length∧BoxA wr Y 68 #[.int .u8 t.k,.bool t.b,.slice b1 t.ns.length d1,.slice b2 t.ds.length d2,.int .i32 t.c,.slice b3 i d3]∧RowOf 25 2 (ElA f t.kids) wc.heap.size wr (.slice b3 i d3) i∧Below v.heap.size v wr∧wc.heap.size≤wr.heap.size∧(∀ g,g<wc.heap.size→g≠Y→wr.heap[g]? = wc.heap[g]?)) (fun iv _=>t.kids.length - (intOf iv).toNat)
  case atStart=>exact ⟨0,none,0,rfl,Nat.zero_le _,B,RowOf.nil,k,Nat.le_refl _,fun _ _ _=>rfl⟩
  case round=>
   obtain ⟨i,b3,d3,rfl,hil,B2,hrow,hb,hsz,hk⟩:=hrel;have X2:=X.below hb lx;have x5:=X2.cell 5 rfl;have hbw:Below w.heap.size w wr:=g.trans (hb.mono (Nat.le_of_lt lx));by_cases hlt:i<t.kids.length
   · have y5:=B2.cell 5 rfl
     obtain ⟨g1,o1,rfl,hg1,hc1⟩:=H.out.bx.ptr (by omega);obtain ⟨p1,m1,q1,p2,m2,q2,e1,e2,hp⟩:=hc1 i hlt;have lg1:=HD.out g1 hg1;have E1:=(hbw.cell (p:=⟨g1,o1+i*2,none⟩) lg1).trans e1;have E2:=(hbw.cell (p:=⟨g1,o1+i*2+1,none⟩) lg1).trans e2;have HP:Hid (ArV f D wr.drew (.slice p1 m1 q1) (.slice p2 m2 q2) (t.kids.getD i tr0)):=(hp.agree (Agree.of hbw HD.out)).agree (fun _ _=>rfl);have HBr:Hid (∀ g,D g→g<wr.drew.heap.size):=fun g h=>by have:=HD.out g h;have:=hbw.size;show g<wr.heap.size;omega
     have HSm:Hid (smF f (t.kids.getD i tr0)):=HS.out.2.2.2 _ (by rw [List.getD_eq_getElem?_getD,List.getElem?_eq_getElem hlt];exact List.getElem_mem hlt);obtain ⟨xs,ho,he⟩:=hrow;have HO:Hid (wr.ownsRow wc.heap.size 25 2 (.slice b3 i d3) i xs):=ho;have HE:Hid (∀ j,j<i→ElA f t.kids (FrR wc.heap.size wr (.slice b3 i d3)) wr (cellsOf xs 2 j) j):=he;have HK:Hid (∀ g,g<wc.heap.size→g≠Y→wr.heap[g]? = wc.heap[g]?):=hk;have n1:Y≠w.heap.size:=(by omega);have n2:w.heap.size≠Y:=(by omega);have n3:Y≠g1:=(by omega);have n4:g1≠Y:=(by omega);have lXr:w.heap.size<wr.heap.size:=(by omega);have lYr:Y<wr.heap.size:=(by omega);have lgr:g1<wr.heap.size:=(by omega);clear hc1 hp e1 e2 ho he hk hs1 hs2
     go_wp2_with fail
     go_region_law (first
         | (go_simp
            go_at_call 27
            refine (HC.out D _ _ _ _ _ _ _ (t.kids.getD i tr0) HBr.out HP.out HSm.out).mono ?_;rintro e wa ⟨z1,l1,u1,z2,l2,u2,rfl,hv,ka⟩;have HV:Hid (ArV f (Fr wr.heap.size wa.heap.size) wa (.slice z1 l1 u1) (.slice z2 l2 u2) (t.kids.getD i tr0)):=hv;have kb:Below wr.heap.size wr wa:=below_undrew ka;clear hv ka;have sa:=kb.size;have xA:=((X2.below kb lXr)).cell 5 rfl;have yA:=((B2.below kb lYr)).cell 5 rfl;have EA1:=(kb.cell (p:=⟨g1,o1+i*2,none⟩) lgr).trans E1;have EA2:=(kb.cell (p:=⟨g1,o1+i*2+1,none⟩) lgr).trans E2;have xO:∀ O,(wa.alloc O).cell? ⟨w.heap.size,5,none⟩=some (.slice (some ⟨g1,o1,none⟩) t.kids.length c3):=fun O=>((X2.below kb lXr).below (below_alloc wa O) (by omega)).cell 5 rfl;have yO:∀ O,(wa.alloc O).cell? ⟨Y,5,none⟩=some (.slice b3 i d3):=fun O=>((B2.below kb lYr).below (below_alloc wa O) (by omega)).cell 5 rfl;have EO1:∀ O,(wa.alloc O).cell? ⟨g1,o1+i*2,none⟩=some (.slice p1 m1 q1):=fun O=>((below_alloc wa O).cell (p:=⟨g1,o1+i*2,none⟩) (by show g1<_;omega)).trans EA1;have EO2:∀ O,(wa.alloc O).cell? ⟨g1,o1+i*2+1,none⟩=some (.slice p2 m2 q2):=fun O=>((below_alloc wa O).cell (p:=⟨g1,o1+i*2+1,none⟩) (by show g1<_;omega)).trans EA2
            go_wp2_with fail)
         | (have j:=HV
            refine step_append_at rfl _ _ 66 rfl wc.heap.size 25 i0 (.agg #[.slice none 0 0,.slice none 0 0]) 2 48 Tryz.underlying66 hi hz0 hz1 hz2 rfl (by decide) _ i xs rfl (row_below HO.out kb (Nat.le_refl _) |>.alloc _) ⟨wa.heap.size,0,none⟩ 1 1 [.slice z1 l1 u1,.slice z2 l2 u2] rfl rfl (cells_new wa #[.slice z1 l1 u1,.slice z2 l2 u2] _) (by intro u hu;simp at hu;rcases hu with rfl | rfl <;> rfl) (by unfold maxLen;omega) (by omega) (by simp;omega) ?_
            intro v' w' hr hgr hvo;obtain ⟨b4,d4,rfl⟩:=row_form3 hr;have HG:Hid ((wa.alloc (.cells #[.slice z1 l1 u1,.slice z2 l2 u2] 25)).grownBy w' (Value.slice b3 i d3).ownBlock):=hgr;have HR:Hid (w'.ownsRow wc.heap.size 25 2 (.slice b4 (i+1) d4) (i+1) (xs++[.slice z1 l1 u1,.slice z2 l2 u2])):=hr;have HW:Hid ((Value.slice b4 (i+1) d4).ownBlock=(Value.slice b3 i d3).ownBlock∨(Value.slice b4 (i+1) d4).ownBlock=some (wa.alloc (.cells #[.slice z1 l1 u1,.slice z2 l2 u2] 25)).heap.size):=hvo;have BN:=boxA_grown ((B2.below kb lYr).below (below_alloc wa _) (by omega)) hgr (fun h=>by have:=(row_own HO.out _ h).1;omega);have yN:=BN.cell 5 rfl;have fN:=BN.frozen 5;clear hr hgr hvo))
     all_goals
      obtain ⟨t1,t2,t3,t4⟩:=row_round (o:=5) (u:=.slice b4 (i+1) d4) (elA_ok f t.kids) HO.out HE.out HK.out hb hsz hY lY kb rfl ⟨z1,l1,u1,z2,l2,u2,rfl,rfl,HV.out⟩ HR.out HG.out HW.out;have BS:=BN.set55 (.slice b4 (i+1) d4);have T1:Hid (RowOf 25 2 (ElA f t.kids) wc.heap.size (w'.setCell ⟨Y,5,none⟩ (.slice b4 (i+1) d4)) (.slice b4 (i+1) d4) (i+1)):=t1;have T4:Hid (∀ g,g<wc.heap.size→g≠Y→(w'.setCell ⟨Y,5,none⟩ (.slice b4 (i+1) d4)).heap[g]? = wc.heap[g]?):=t4;clear t1 t4 xO yO EO1 EO2 yN fN;go_wp2
      go_roundw
      case rel=>exact ⟨i+1,b4,d4,by go_num,by omega,BS,T1.out,t2,t3,T4.out⟩
      case measure=>simp [intOf];omega
   · obtain rfl:i=t.kids.length:=by omega
     have R2':=R.below hb lr;have r0:=R2'.cell 0 rfl;have r1:=R2'.cell 1 rfl;have r2:=R2'.cell 2 rfl;have r3:=R2'.cell 3 rfl;have r4:=R2'.cell 4 rfl;have r5:=R2'.cell 5 rfl;have f0:=R2'.frozen 0;have f1:=R2'.frozen 1;have f2:=R2'.frozen 2;have f3:=R2'.frozen 3;have f4:=R2'.frozen 4;have f5:=R2'.frozen 5;have y0:=B2.cell 0 rfl;have y1:=B2.cell 1 rfl;have y2:=B2.cell 2 rfl;have y3:=B2.cell 3 rfl;have y4:=B2.cell 4 rfl;have y5:=B2.cell 5 rfl;have hR:Hid (RowOf 25 2 (ElA f t.kids) wc.heap.size wr (.slice b3 t.kids.length d3) t.kids.length):=hrow;have HK:Hid (∀ g,g<wc.heap.size→g≠Y→wr.heap[g]? = wc.heap[g]?):=hk;clear hrow hk;go_wp2
     have Q:=R2'.set6 (.int .u8 t.k) (.bool t.b) (.slice b1 t.ns.length d1) (.slice b2 t.ds.length d2) (.int .i32 t.c) (.slice b3 t.kids.length d3);have j0:=Q.cell 0 rfl;have j1:=Q.cell 1 rfl;have j2:=Q.cell 2 rfl;have j3:=Q.cell 3 rfl;have j4:=Q.cell 4 rfl;have j5:=Q.cell 5 rfl;refine bodyPost_ret (v:=.agg #[.int .u8 t.k,.bool t.b,.slice b1 t.ns.length d1,.slice b2 t.ds.length d2,.int .i32 t.c,.slice b3 t.kids.length d3]) (by simp [results,Tryz.results49,go_sem,j0,j1,j2,j3,j4,j5]) rfl ?_;refine ⟨b1,d1,b2,d2,b3,d3,rfl,⟨R1.out.imp ?_ ?_,R2.out.imp ?_ ?_,rowB_A (hR.out.set6 (elA_ok _ _) (by omega) _ _ _ _ _ _) ?_⟩,Below.set6 hbw (by omega) _ _ _ _ _ _⟩
     · rintro g ⟨q1,q2,q3⟩;exact ⟨by omega,by rw [set6_size];omega⟩
     · rintro g ⟨q1,q2,q3⟩;rw [set6_other (by omega)];exact HK.out g q2 q3
     · rintro g ⟨q1,q2,q3⟩;exact ⟨by omega,by rw [set6_size];omega⟩
     · rintro g ⟨q1,q2,q3⟩;rw [set6_other (by omega)];exact HK.out g q2 q3
     · rintro g q1 q2;exact ⟨by omega,q2⟩
end
theorem info_int3:(Tryz.prog.info? 3).map (fun i=>(i.zero,i.size,i.bytes))=some (some (.int .i64 0),1,8):=by kernel_rfl
theorem getD_map_i64 (xs:List Int) (j:Nat) (h:j<xs.length):(xs.map (Value.int .i64))[j]? = some (.int .i64 (xs.getD j 0)):=by
 simp [h]
theorem rdN_parts {D:Nat→Prop} {w:World} {a:Option Addr} {c:Nat} {xs:List Int} (h:RdN D w (.slice a xs.length c) xs):(a=none∧xs=[]∧c=0)∨∃ ad,a=some ad∧∀ j u,(xs.map (Value.int .i64))[j]? = some u→w.cell? (ad.add j)=some u:=by
 obtain ⟨_,a',c',e,h1,h2,h3,h4⟩:=h;obtain ⟨rfl,_,rfl⟩:=Value.slice.inj e
 cases a with
 | none=>
  have:=h3 rfl;subst this;exact Or.inl ⟨rfl,List.eq_nil_of_length_eq_zero (by omega),rfl⟩
 | some ad=>
  refine Or.inr ⟨ad,rfl,?_⟩;rcases h4 with h4 | ⟨b,off,e2,_,hc⟩
  · have:xs=[]:=List.eq_nil_of_length_eq_zero h4
    subst this;intro j u h;simp at h
  · cases e2
    intro j u h;have hj:j<xs.length:=by
     have:=(List.getElem?_eq_some_iff.1 h).1;simpa using this
    rw [getD_map_i64 xs j hj] at h;rw [← h,← hc j hj];have e:(⟨b,off,none⟩:Addr).add j=⟨b,off+j,none⟩:=by
     cases j with
     | zero=>simp [Addr.add]
     | succ j=>simp [Addr.add]
    rw [e]
/-- Lengths that are appended to none: their copy. -/
theorem append_nilN {D:Nat→Prop} {w:World} {ops:Array Oper} {rest:List Oper} {o:Oper} {a:Act} {Q:Exit→Act→World→Prop} {a1:Option Addr} {c1:Nat} {ns:List Int} (hgd:o.guard=none) (s x:Operand)
    (ho:o.op=.call { callee:=.builtin .append,args:=#[s,x],argTypes:=#[23,23] }) (hs:a.eval s=.slice none 0 0) (hx:a.eval x=.slice a1 ns.length c1) (hR:RdN D w (.slice a1 ns.length c1) ns) (hl:ns.length*8≤140737488355328)
    (h:∀ x1 y1 w',RdN (Fr w.heap.size w'.heap.size) w' (.slice x1 ns.length y1) ns→Below w.heap.size w w'→wpList Tryz.prog ops Q rest (a.put o.dst (.slice x1 ns.length y1)) w'):wpList Tryz.prog ops Q (o :: rest) a w:=by
 obtain ⟨i0,hi,hz0,hz1,hz2⟩:=info_parts info_int3;have hlim:=hR.1;rcases rdN_parts hR with ⟨rfl,rfl,rfl⟩ | ⟨ad,rfl,hN⟩
 · exact wpList_append_own_none hgd s x 23 ho w.heap.size 3 i0 1 Tryz.underlying23 hi (.slice none 0 0) 0 [] hs (World.ownsRow_nil _ _ _ _) hx (h none 0 w ⟨hlim,none,0,rfl,Nat.le_refl _,by omega,fun _=>rfl,Or.inl rfl⟩ (Below.refl _ _))
 · refine wpList_append_own _ hgd s x 23 ho w.heap.size 3 i0 (.int .i64 0) 1 8 Tryz.underlying23 hi hz0 hz1 hz2 rfl (by decide) (.slice none 0 0) 0 [] hs (World.ownsRow_nil _ _ _ _) ad ns.length c1 (ns.map (Value.int .i64)) hx (by rw [List.length_map];omega) hN (ints_oneCell _ _) ?_ ?_ (Nat.le_refl _) ?_
   · unfold maxLen;omega
   · omega
   intro v' w2 hown hgrow _;rw [Nat.zero_add,List.nil_append] at hown;obtain ⟨x1,y1,rfl⟩:=row_form3 hown;refine h x1 y1 w2 ?_ ((Below.refl _ _).grown hgrow (Nat.le_refl _) (fun k h=>by cases h));have hrow:=hown;obtain ⟨_,h | ⟨g,cap,cur,hv,hg,hh,h2,h3,_,_⟩⟩:=hown
   · obtain ⟨e1,e2⟩:=h
     obtain ⟨rfl,_,rfl⟩:=Value.slice.inj e1;exact ⟨hlim,none,0,rfl,by omega,by omega,fun _=>rfl,Or.inl e2⟩
   · obtain ⟨rfl,_,rfl⟩:=Value.slice.inj hv
     refine ⟨hlim,_,y1,rfl,h2,by unfold maxLen at h3;omega,(fun h=>by cases h),Or.inr ⟨g,0,rfl,⟨hg,lt_of_block hh⟩,fun j hj => ?_⟩⟩;have:=hrow.cellAt j (by omega);rw [getD_map_i64 ns j hj] at this;rw [Nat.zero_add];exact this
theorem boxA_s0 {w:World} {R ty:Nat} {u0 u1:Value} (h:BoxA w R ty #[u0,u1]) (u:Value):BoxA (w.setCell ⟨R,0,none⟩ u) R ty #[u,u1]:=by
 unfold BoxA at h ⊢;simp [World.setCell,Array.getElem?_modify,h]
theorem boxA_s1 {w:World} {R ty:Nat} {u0 u1:Value} (h:BoxA w R ty #[u0,u1]) (u:Value):BoxA (w.setCell ⟨R,1,none⟩ u) R ty #[u0,u]:=by
 unfold BoxA at h ⊢;simp [World.setCell,Array.getElem?_modify,h]
theorem set1_other {w:World} {a:Addr} {g:Nat} (h:¬ a.block=g) (u:Value):(w.setCell a u).heap[g]? = w.heap[g]?:=by
 simp [World.setCell,Array.getElem?_modify,h]
theorem set1_size {w:World} {a:Addr} (u:Value):(w.setCell a u).heap.size=w.heap.size:=by
 simp [World.setCell]
theorem info_item3:(Tryz.prog.info? 68).map (fun i=>(i.zero,i.size,i.bytes))=some (some (.agg #[.int .u8 0,.bool false,.slice none 0 0,.slice none 0 0,.int .i32 0,.slice none 0 0]),6,96):=by kernel_rfl
theorem copy_step {f:Nat} (hC:CopyOK f):CopyOK (f+1):=by
 intro D w x1 n1 y1 x2 n2 y2 t hD h hS;obtain rfl:=h.1.len;obtain rfl:=h.2.len;have HC:Hid (CopyOK f):=hC;have H:Hid (ArV (f+1) D w (.slice x1 t.ns.length y1) (.slice x2 t.kids.length y2) t):=h;have HD:Hid (∀ g,D g→g<w.heap.size):=hD;have HS:Hid (smF (f+1) t):=hS;have hs1:t.ns.length*8≤140737488355328:=hS.1;have hs2:t.kids.length*96≤140737488355328:=hS.2.1;have bd1:=h.1.bounds;have bd2:=h.2.bounds;clear hC h hD hS;have k0:=below_alloc w (.cells #[.slice x1 t.ns.length y1,.slice x2 t.kids.length y2] 25);have k1:=below_alloc (w.alloc (.cells #[.slice x1 t.ns.length y1,.slice x2 t.kids.length y2] 25)) (.cells #[.slice none 0 0,.slice none 0 0] 25);have k2:=below_alloc ((w.alloc (.cells #[.slice x1 t.ns.length y1,.slice x2 t.kids.length y2] 25)).alloc (.cells #[.slice none 0 0,.slice none 0 0] 25)) (.cells #[.slice none 0 0,.slice none 0 0] 25);have X:=((boxA_new w #[.slice x1 t.ns.length y1,.slice x2 t.kids.length y2] 25).below k1 (by simp)).below k2 (by simp;omega);have R:=(boxA_new (w.alloc (.cells #[.slice x1 t.ns.length y1,.slice x2 t.kids.length y2] 25)) #[.slice none 0 0,.slice none 0 0] 25).below k2 (by simp);have Yb:=boxA_new ((w.alloc (.cells #[.slice x1 t.ns.length y1,.slice x2 t.kids.length y2] 25)).alloc (.cells #[.slice none 0 0,.slice none 0 0] 25)) #[.slice none 0 0,.slice none 0 0] 25;rw [World.size_alloc] at R;rw [World.size_alloc,World.size_alloc] at Yb;have g:Below w.heap.size w _:=(k0.trans (k1.mono (by simp))).trans (k2.mono (by simp;omega));go_enter Tryz.func27,Tryz.ntmps27
 go_upto_region 2 with fail
 generalize hA:((w.alloc (.cells #[.slice x1 t.ns.length y1,.slice x2 t.kids.length y2] 25)).alloc (.cells #[.slice none 0 0,.slice none 0 0] 25)).alloc (.cells #[.slice none 0 0,.slice none 0 0] 25)=v at *;clear hA k0 k1 k2;have lv:=Yb.lt;have nR:w.heap.size+1≠w.heap.size+1+1:=by omega
 have hN:RdN D v (.slice x1 t.ns.length y1) t.ns:=H.out.1.imp (fun _ h=>h) (Agree.of g HD.out);have x0:=X.cell 0 rfl;have y0:=Yb.cell 0 rfl
 go_wp2_with (at_builtin;refine append_nilN rfl _ _ rfl rfl rfl hN hs1 ?_)
 intro x5 y5 w2 oN kN;clear x0 y0;have Y2:=Yb.below kN lv;have z0:=Y2.cell 0 rfl;have p0:=Y2.frozen 0;have hk0:Below (w.heap.size+1+1) v (w2.setCell ⟨w.heap.size+1+1,0,none⟩ (.slice x5 t.ns.length y5)):=(kN.mono (Nat.le_of_lt lv)).setCell (p:=⟨w.heap.size+1+1,0,none⟩) (Nat.le_refl _) _;have Y3:=boxA_s0 Y2 (.slice x5 t.ns.length y5);have HN:Hid (RdN (LimD (w.heap.size+1+1) (w2.setCell ⟨w.heap.size+1+1,0,none⟩ (.slice x5 t.ns.length y5)).heap.size (w.heap.size+1+1)) (w2.setCell ⟨w.heap.size+1+1,0,none⟩ (.slice x5 t.ns.length y5)) (.slice x5 t.ns.length y5) t.ns):=by
  refine oN.imp ?_ ?_
  · rintro g ⟨q1,q2⟩;exact ⟨by omega,by rw [set1_size];exact q2,by omega⟩
  · rintro g ⟨q1,q2⟩;exact set1_other (by show ¬ w.heap.size+1+1=g;omega) _
 have lc:w.heap.size+1+1<(w2.setCell ⟨w.heap.size+1+1,0,none⟩ (.slice x5 t.ns.length y5)).heap.size:=Y3.lt
 go_wp2_with fail
 clear z0 p0 Y2 oN kN hN;generalize hA:w2.setCell ⟨w.heap.size+1+1,0,none⟩ (.slice x5 t.ns.length y5)=wc at *;clear hA;obtain ⟨i0,hi,hz0,hz1,hz2⟩:=info_parts info_item3
 go_loopw [4] (fun iv wr=>∃ (i:Nat) (b3:Option Addr) (d3:Nat),iv=.int .i64 i∧i≤t.kids.length∧BoxA wr (w.heap.size+1+1) 25 #[.slice x5 t.ns.length y5,.slice b3 i d3]∧RowOf 68 6 (ElI f t.kids) wc.heap.size wr (.slice b3 i d3) i∧Below (w.heap.size+1+1) v wr∧wc.heap.size≤wr.heap.size∧(∀ g,g<wc.heap.size→g≠w.heap.size+1+1→wr.heap[g]? = wc.heap[g]?)) (fun iv _=>t.kids.length - (intOf iv).toNat)
 case atStart=>exact ⟨0,none,0,rfl,Nat.zero_le _,Y3,RowOf.nil,hk0,Nat.le_refl _,fun _ _ _=>rfl⟩
 case round=>
  obtain ⟨i,b3,d3,rfl,hil,B2,hrow,hb,hsz,hk⟩:=hrel;have X2:=X.below hb (by omega);have p1:=X2.cell 1 rfl;have hbw:Below w.heap.size w wr:=g.trans (hb.mono (by omega));by_cases hlt:i<t.kids.length
  · have y5':=B2.cell 1 rfl
    obtain ⟨g1,o1,rfl,hg1,hc1⟩:=H.out.2.ptr (by omega);obtain ⟨q1,s1,q2,s2,q3,s3,⟨e0,e1,e2,e3,e4,e5⟩,hv⟩:=hc1 i hlt;have lg1:=HD.out g1 hg1;have E0:=(hbw.cell (p:=⟨g1,o1+i*6,none⟩) lg1).trans e0;have E1:=(hbw.cell (p:=⟨g1,o1+i*6+1,none⟩) lg1).trans e1;have E2:=(hbw.cell (p:=⟨g1,o1+i*6+2,none⟩) lg1).trans e2;have E3:=(hbw.cell (p:=⟨g1,o1+i*6+3,none⟩) lg1).trans e3;have E4:=(hbw.cell (p:=⟨g1,o1+i*6+4,none⟩) lg1).trans e4;have E5:=(hbw.cell (p:=⟨g1,o1+i*6+5,none⟩) lg1).trans e5;have hm:smI f (t.kids.getD i tr0):=HS.out.2.2 _ (by rw [List.getD_eq_getElem?_getD,List.getElem?_eq_getElem hlt];exact List.getElem_mem hlt);have hv2:=(hv.agree (Agree.of hbw HD.out)).agree (w':=wr.drew) (fun _ _=>rfl);clear e0 e1 e2 e3 e4 e5 hv hc1;obtain ⟨x,hx⟩:∃ x,t.kids.getD i tr0=x:=⟨_,rfl⟩;rw [hx] at E0 E1 E2 E3 E4 E5 hm hv2;have HX:Hid (t.kids.getD i tr0=x):=hx;have HP:Hid (ItV (ArV f D wr.drew) D wr.drew q1 s1 q2 s2 q3 s3 x):=hv2;have HSm:Hid (smI f x):=hm;have HBr:Hid (∀ g,D g→g<wr.drew.heap.size):=fun g h=>by have:=HD.out g h;have:=hbw.size;show g<wr.heap.size;omega
    obtain ⟨xs,ho,he⟩:=hrow;have HO:Hid (wr.ownsRow wc.heap.size 68 6 (.slice b3 i d3) i xs):=ho;have HE:Hid (∀ j,j<i→ElI f t.kids (FrR wc.heap.size wr (.slice b3 i d3)) wr (cellsOf xs 6 j) j):=he;have HK:Hid (∀ g,g<wc.heap.size→g≠w.heap.size+1+1→wr.heap[g]? = wc.heap[g]?):=hk;have lYr:w.heap.size+1+1<wr.heap.size:=(by omega);have LY:Hid (w.heap.size+1+1<wc.heap.size):=lc;clear hm hv2 hx ho he hk
    go_wp2_with fail
    go_region_law (first
        | (go_simp
           go_at_call 49
           refine (copyItem_step HC.out HP.out HBr.out HSm.out).mono ?_;rintro e wa ⟨b1,d1,b2,d2,b5,d5,rfl,hv,ka⟩;have HV:Hid (ItV (ArV f (Fr wr.heap.size wa.heap.size) wa) (Fr wr.heap.size wa.heap.size) wa b1 d1 b2 d2 b5 d5 x):=hv;have kb:Below wr.heap.size wr wa:=below_undrew ka;clear hv ka;have sa:=kb.size;have yA:=((B2.below kb lYr)).cell 1 rfl;have yO:∀ O,(wa.alloc O).cell? ⟨w.heap.size+1+1,1,none⟩=some (.slice b3 i d3):=fun O=>((B2.below kb lYr).below (below_alloc wa O) (by omega)).cell 1 rfl
           go_wp2_with fail)
        | (have j:=HV
           refine step_append_at rfl _ _ 22 rfl wc.heap.size 68 i0 (.agg #[.int .u8 0,.bool false,.slice none 0 0,.slice none 0 0,.int .i32 0,.slice none 0 0]) 6 96 Tryz.underlying22 hi hz0 hz1 hz2 rfl (by decide) _ i xs rfl (row_below HO.out kb (Nat.le_refl _) |>.alloc _) ⟨wa.heap.size,0,none⟩ 1 1 [.int .u8 x.k,.bool x.b,.slice b1 x.ns.length d1,.slice b2 x.ds.length d2,.int .i32 x.c,.slice b5 x.kids.length d5] rfl rfl (cells_new wa #[.int .u8 x.k,.bool x.b,.slice b1 x.ns.length d1,.slice b2 x.ds.length d2,.int .i32 x.c,.slice b5 x.kids.length d5] _) (by intro u hu;simp at hu;rcases hu with rfl | rfl | rfl | rfl | rfl | rfl <;> rfl) (by unfold maxLen;omega) (by omega) (by simp;omega) ?_
           intro v' w' hr hgr hvo;obtain ⟨b4,d4,rfl⟩:=row_form3 hr;have HG:Hid ((wa.alloc (.cells #[.int .u8 x.k,.bool x.b,.slice b1 x.ns.length d1,.slice b2 x.ds.length d2,.int .i32 x.c,.slice b5 x.kids.length d5] 68)).grownBy w' (Value.slice b3 i d3).ownBlock):=hgr;have HR:Hid (w'.ownsRow wc.heap.size 68 6 (.slice b4 (i+1) d4) (i+1) (xs++[.int .u8 x.k,.bool x.b,.slice b1 x.ns.length d1,.slice b2 x.ds.length d2,.int .i32 x.c,.slice b5 x.kids.length d5])):=hr;have HW:Hid ((Value.slice b4 (i+1) d4).ownBlock=(Value.slice b3 i d3).ownBlock∨(Value.slice b4 (i+1) d4).ownBlock=some (wa.alloc (.cells #[.int .u8 x.k,.bool x.b,.slice b1 x.ns.length d1,.slice b2 x.ds.length d2,.int .i32 x.c,.slice b5 x.kids.length d5] 68)).heap.size):=hvo;have BN:=boxA_grown ((B2.below kb lYr).below (below_alloc wa _) (by omega)) hgr (fun h=>by have:=(row_own HO.out _ h).1;have:=LY.out;omega);have yN:=BN.cell 1 rfl;have fN:=BN.frozen 1;clear hr hgr hvo))
    all_goals
     obtain ⟨t1,t2,t3,t4⟩:=row_round (o:=1) (u:=.slice b4 (i+1) d4) (elI_ok f t.kids) HO.out HE.out HK.out hb hsz (Nat.le_refl _) LY.out kb rfl (by unfold ElI;rw [HX.out];exact ⟨b1,d1,b2,d2,b5,d5,⟨rfl,rfl,rfl,rfl,rfl,rfl⟩,HV.out⟩) HR.out HG.out HW.out;have BS:=boxA_s1 BN (.slice b4 (i+1) d4);have T1:Hid (RowOf 68 6 (ElI f t.kids) wc.heap.size (w'.setCell ⟨w.heap.size+1+1,1,none⟩ (.slice b4 (i+1) d4)) (.slice b4 (i+1) d4) (i+1)):=t1;have T4:Hid (∀ g,g<wc.heap.size→g≠w.heap.size+1+1→(w'.setCell ⟨w.heap.size+1+1,1,none⟩ (.slice b4 (i+1) d4)).heap[g]? = wc.heap[g]?):=t4;clear t1 t4 yO yN fN;go_wp2
     go_roundw
     case rel=>exact ⟨i+1,b4,d4,by go_num,by omega,BS,T1.out,t2,t3,T4.out⟩
     case measure=>simp [intOf];omega
  · obtain rfl:i=t.kids.length:=by omega
    have R2:=R.below hb (by omega);have r0:=R2.cell 0 rfl;have r1:=R2.cell 1 rfl;have f0:=R2.frozen 0;have f1:=R2.frozen 1;have y0:=B2.cell 0 rfl;have y1':=B2.cell 1 rfl;have hR:Hid (RowOf 68 6 (ElI f t.kids) wc.heap.size wr (.slice b3 t.kids.length d3) t.kids.length):=hrow;have HK:Hid (∀ g,g<wc.heap.size→g≠w.heap.size+1+1→wr.heap[g]? = wc.heap[g]?):=hk;clear hrow hk;go_wp2
    have Q:=boxA_s1 (boxA_s0 R2 (.slice x5 t.ns.length y5)) (.slice b3 t.kids.length d3);have j0:=Q.cell 0 rfl;have j1:=Q.cell 1 rfl;refine bodyPost_ret (v:=.agg #[.slice x5 t.ns.length y5,.slice b3 t.kids.length d3]) (by simp [results,Tryz.results27,go_sem,j0,j1]) rfl ?_;refine ⟨x5,_,y5,b3,_,d3,rfl,⟨HN.out.imp ?_ ?_,rowB_I ((hR.out.setCell (elI_ok _ _) (a:=⟨w.heap.size+1,0,none⟩) (by show w.heap.size+1<_;omega) _).setCell (elI_ok _ _) (a:=⟨w.heap.size+1,1,none⟩) (by show w.heap.size+1<_;omega) _) ?_⟩,(hbw.setCell (p:=⟨w.heap.size+1,0,none⟩) (by show w.heap.size≤w.heap.size+1;omega) _).setCell (p:=⟨w.heap.size+1,1,none⟩) (by show w.heap.size≤w.heap.size+1;omega) _⟩
    · rintro g ⟨q1,q2,q3⟩;exact ⟨by omega,by rw [set1_size,set1_size];omega⟩
    · rintro g ⟨q1,q2,q3⟩;rw [set1_other (by show ¬ w.heap.size+1=g;omega),set1_other (by show ¬ w.heap.size+1=g;omega)];exact HK.out g q2 q3
    · rintro g q1 q2;exact ⟨by omega,q2⟩
theorem copy_all:∀ f,CopyOK f
 | 0=>fun _ _ _ _ _ _ _ _ _ _ h _=>h.elim
 | f+1=>copy_step (copy_all f)
/-- The document's Copy of any array. -/
theorem refCopy3_any {f:Nat} {D:Nat→Prop} {W:World} {x1:Option Addr} {n1 y1:Nat} {x2:Option Addr} {n2 y2:Nat} {t:Tr} (h:ArV f D W (.slice x1 n1 y1) (.slice x2 n2 y2) t) (hD:∀ g,D g→g<W.heap.size) (hS:smF f t) :
    Calls Tryz.prog 27 #[.agg #[.slice x1 n1 y1,.slice x2 n2 y2]] W fun e w'=>∃ z1 m1 u1 z2 m2 u2,e=.returned (.agg #[.slice z1 m1 u1,.slice z2 m2 u2])∧ArV f (Fr W.heap.size w'.heap.size) w' (.slice z1 m1 u1) (.slice z2 m2 u2) t∧Below W.heap.size W w':=
 copy_all f D W x1 n1 y1 x2 n2 y2 t hD h hS
/-- The product of lengths, if it is at most 4096 all the way. -/
def prodF:List Int→Int→Option Int
 | [],s=>some s
 | n :: r,s=>if 4096<s*n then none else prodF r (s*n)
def loF (sh:List Int):Int:=sh.foldl min 1
def hiF (sh:List Int):Int:=sh.foldl max 1
/-- How many items a shape has, and its error. -/
def sizeF (sh:List Int):Int×Int:=
 if 8<sh.length then (0,4) else if loF sh<0 then (0,3) else if 4096<hiF sh then (0,8) else if loF sh=0 then (0,0)
 else match prodF sh 1 with | some n=>(n,0) | none=>(0,8)
theorem foldl_lo:∀ (l:List Int) (a:Int),l.foldl min a≤a∧∀ x∈l,l.foldl min a≤x
 | [],a=>⟨by simp,fun x h=>by cases h⟩
 | y :: l,a=>by
  have h:=foldl_lo l (min a y);rw [List.foldl_cons];refine ⟨by omega,fun x hx => ?_⟩;rcases List.mem_cons.1 hx with rfl | hx
  · omega
  · exact h.2 x hx
theorem foldl_hi:∀ (l:List Int) (a:Int),a≤l.foldl max a∧∀ x∈l,x≤l.foldl max a
 | [],a=>⟨by simp,fun x h=>by cases h⟩
 | y :: l,a=>by
  have h:=foldl_hi l (max a y);rw [List.foldl_cons];refine ⟨by omega,fun x hx => ?_⟩;rcases List.mem_cons.1 hx with rfl | hx
  · omega
  · exact h.2 x hx
theorem take_fold {f:Int→Int→Int} {l:List Int} {i:Nat} (h:i<l.length) (a:Int):(l.take (i+1)).foldl f a=f ((l.take i).foldl f a) (l.getD i 0):=by
 rw [← List.take_append_getElem h,List.foldl_append];simp [List.getD,h]
theorem mulLen {s n:Int} (h1:1≤s) (h2:s≤4096) (h3:1≤n) (h4:n≤4096):1≤s*n∧s*n≤16777216:=by
 have a1:s*n≤4096*n:=Int.mul_le_mul_of_nonneg_right h2 (by omega);have a2:1*n≤s*n:=Int.mul_le_mul_of_nonneg_right h1 (by omega);omega
theorem prodF_in:∀ (l:List Int) (s n:Int),1≤s→s≤4096→(∀ x∈l,1≤x∧x≤4096)→prodF l s=some n→1≤n∧n≤4096
 | [],s,n,h1,h2,_,h=>by rw [prodF] at h;cases h;exact ⟨h1,h2⟩
 | x :: l,s,n,h1,h2,hl,h=>by
  rw [prodF] at h;have hx:=hl x (by simp);have hb:=mulLen h1 h2 hx.1 hx.2;by_cases hc:4096<s*x
  · rw [if_pos hc] at h;cases h
  · rw [if_neg hc] at h
    exact prodF_in l _ n hb.1 (by omega) (fun y hy=>hl y (by simp [hy])) h
theorem sizeF_in (sh:List Int):0≤(sizeF sh).1∧(sizeF sh).1≤4096:=by
 unfold sizeF
 split
 · exact ⟨by decide,by decide⟩
 split
 · exact ⟨by decide,by decide⟩
 split
 · exact ⟨by decide,by decide⟩
 split
 · exact ⟨by decide,by decide⟩
 · rename_i h1 h2 h3 h4
   have hlo:=foldl_lo sh 1;have hhi:=foldl_hi sh 1
   cases hp:prodF sh 1 with
   | none=>exact ⟨by decide,by decide⟩
   | some n=>
    have:=prodF_in sh 1 n (by omega) (by omega) (fun x hx=>by
     have a:=hlo.2 x hx;have b:=hhi.2 x hx;unfold loF at h2 h4;unfold hiF at h3;omega) hp
    exact ⟨by simp;omega,by simp;omega⟩
section
variable {D:Nat→Prop} {w:World} {a:Option Addr} {c:Nat} {sh:List Int}
theorem lengths_any (h:RdN D w (.slice a sh.length c) sh) (hD:∀ g,D g→g<w.heap.size) (hin:∀ x∈sh,1≤x∧x≤4096) :
    Calls Tryz.prog 40 #[.slice a sh.length c] w fun e w'=>(∃ n,prodF sh 1=some n∧e=.returned (.tuple #[.int .i64 n,.int .i64 0])∧w'=w)∨(prodF sh 1=none∧e=.returned (.tuple #[.int .i64 0,.int .i64 8])∧w'=w):=by
 have bd:=h.bounds;have HH:Hid (RdN D w (.slice a sh.length c) sh):=h;have HIN:Hid (∀ x∈sh,1≤x∧x≤4096):=hin;clear h hin;go_enter Tryz.func40,Tryz.ntmps40;go_wp2
 go_loopw [4,9] (fun sv iv wr=>∃ (i:Nat) (S:Int),sv=.int .i64 S∧iv=.int .i64 i∧i≤sh.length∧1≤S∧S≤4096∧Hid (prodF sh 1=prodF (sh.drop i) S)∧wr=w) (fun _ iv _=>sh.length - (intOf iv).toNat)
 case atStart=>exact ⟨0,1,rfl,rfl,Nat.zero_le _,by omega,by omega,rfl,rfl⟩
 case round=>
  obtain ⟨i,S,rfl,rfl,hil,h1,h2,HP,hwr⟩:=hrel;subst hwr;by_cases hlt:i<sh.length
  · obtain ⟨g,o,rfl,hg,hc⟩:=HH.out.ptr (by omega)
    have q:=hc i hlt;have hx:=HIN.out (sh.getD i 0) (by simp [List.getD,hlt]);have HQ:Hid (prodF (sh.drop i) S=if 4096<S*sh.getD i 0 then none else prodF (sh.drop (i+1)) (S*sh.getD i 0)):=by
     unfold Hid;rw [List.drop_eq_getElem_cons hlt,prodF];simp [List.getD,hlt]
    clear hc;generalize sh.getD i 0=X at *;have hb:=mulLen h1 h2 hx.1 hx.2;by_cases hbig:4096<S*X
    · have HN:Hid (prodF sh 1=none):=by unfold Hid;rw [HP.out,HQ.out,if_pos hbig]
      go_wp2
      go_ret2
      exact Or.inr ⟨HN.out,rfl,rfl⟩
    · have HN:Hid (prodF sh 1=prodF (sh.drop (i+1)) (S*X)):=by unfold Hid;rw [HP.out,HQ.out,if_neg hbig]
      go_wp2
      go_roundw
      case rel=>exact ⟨i+1,S*X,by go_num,by go_num,by omega,hb.1,by omega,HN,(by first | rfl | trivial)⟩
      case measure=>simp [intOf];omega
  · have HN:Hid (prodF sh 1=some S):=by
     unfold Hid;rw [HP.out,List.drop_eq_nil_of_le (by omega),prodF]
    go_wp2
    go_ret2
    exact Or.inl ⟨S,HN.out,rfl,rfl⟩
theorem arrSize_any (h:RdN D w (.slice a sh.length c) sh) (hD:∀ g,D g→g<w.heap.size) :
    Calls Tryz.prog 17 #[.slice a sh.length c] w fun e w'=>e=.returned (.tuple #[.int .i64 (sizeF sh).1,.int .i64 (sizeF sh).2])∧w'=w:=by
 have bd:=h.bounds;have HH:Hid (RdN D w (.slice a sh.length c) sh):=h;have HD:Hid (∀ g,D g→g<w.heap.size):=hD;clear h hD;go_enter Tryz.func17,Tryz.ntmps17;by_cases h8:8<sh.length
 · have HF:Hid (sizeF sh=(0,4)):=by unfold Hid sizeF;rw [if_pos h8]
   go_wp2
   go_ret2
   exact ⟨by rw [HF.out];rfl,rfl⟩
 go_wp2
 go_loopw [4,5,13] (fun lv hv iv wr=>∃ (i:Nat) (lo hi:Int),lv=.int .i64 lo∧hv=.int .i64 hi∧iv=.int .i64 i∧i≤sh.length∧Hid (lo=(sh.take i).foldl min 1)∧Hid (hi=(sh.take i).foldl max 1)∧wr=w) (fun _ _ iv _=>sh.length - (intOf iv).toNat)
 case atStart=>exact ⟨0,1,1,rfl,rfl,rfl,Nat.zero_le _,rfl,rfl,rfl⟩
 case round=>
  obtain ⟨i,lo,hi,rfl,rfl,rfl,hil,HL,HI,hwr⟩:=hrel;subst hwr;by_cases hlt:i<sh.length
  · obtain ⟨g,o,rfl,hg,hc⟩:=HH.out.ptr (by omega)
    have q:=hc i hlt;have HL2:Hid (min lo (sh.getD i 0)=(sh.take (i+1)).foldl min 1):=by unfold Hid;rw [take_fold hlt,HL.out]
    have HI2:Hid (max hi (sh.getD i 0)=(sh.take (i+1)).foldl max 1):=by unfold Hid;rw [take_fold hlt,HI.out]
    clear hc;generalize sh.getD i 0=X at *;go_wp2
    go_roundw
    case rel=>exact ⟨i+1,min lo X,max hi X,rfl,rfl,by go_num,by omega,HL2,HI2,(by first | rfl | trivial)⟩
    case measure=>simp [intOf];omega
  · have hlo:lo=loF sh:=by rw [HL.out,List.take_of_length_le (by omega)];rfl
    have hhi:hi=hiF sh:=by rw [HI.out,List.take_of_length_le (by omega)];rfl
    have HLO:Hid (lo=loF sh):=hlo;have HHI:Hid (hi=hiF sh):=hhi;clear hlo hhi HL HI;by_cases c1:lo<0
    · have HF:Hid (sizeF sh=(0,3)):=by unfold Hid sizeF;rw [if_neg h8,if_pos (by rw [← HLO.out];exact c1)]
      go_wp2
      go_ret2
      exact ⟨by rw [HF.out];rfl,rfl⟩
    by_cases c2:4096<hi
    · have HF:Hid (sizeF sh=(0,8)):=by unfold Hid sizeF;rw [if_neg h8,if_neg (by rw [← HLO.out];exact c1),if_pos (by rw [← HHI.out];exact c2)]
      go_wp2
      go_ret2
      exact ⟨by rw [HF.out];rfl,rfl⟩
    by_cases c3:lo=0
    · have HF:Hid (sizeF sh=(0,0)):=by unfold Hid sizeF;rw [if_neg h8,if_neg (by rw [← HLO.out];exact c1),if_neg (by rw [← HHI.out];exact c2),if_pos (by rw [← HLO.out];exact c3)]
      go_wp2
      go_ret2
      exact ⟨by rw [HF.out];rfl,rfl⟩
    have HF:Hid (sizeF sh=match prodF sh 1 with | some n=>(n,0) | none=>(0,8)):=by unfold Hid sizeF;rw [if_neg h8,if_neg (by rw [← HLO.out];exact c1),if_neg (by rw [← HHI.out];exact c2),if_neg (by rw [← HLO.out];exact c3)]
    have HIN:Hid (∀ x∈sh,1≤x∧x≤4096):=fun x hx=>by
     have a1:=(foldl_lo sh 1).2 x hx;have a2:=(foldl_hi sh 1).2 x hx;have a3:=HLO.out;have a4:=HHI.out;unfold loF at a3;unfold hiF at a4;omega
    go_wp2_with fail
    refine (lengths_any HH.out HD.out HIN.out).mono ?_;rintro e w1 (⟨n,hn,rfl,rfl⟩ | ⟨hn,rfl,rfl⟩)
    · go_wp2
      go_ret2
      exact ⟨by rw [HF.out,hn];rfl,rfl⟩
    · go_wp2
      go_ret2
      exact ⟨by rw [HF.out,hn];rfl,rfl⟩
end
end
end Go.Proofs.YtheaeggecpfcbaaGreat
