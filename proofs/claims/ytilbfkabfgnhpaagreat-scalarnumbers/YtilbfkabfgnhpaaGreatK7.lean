/- A range over a function whose items are told together with what they are in memory: the iterator pays a fact on each item ahead of its round, and the body may use it. -/
import Derived.RangeFuncNested
import Derived.RangeFuncBound
import Derived.RangeFuncCalls
import Derived.RangeFuncLeaves
import Derived.RangeFuncBox
import Derived.Test.YtilbfkabfgnhpaaGreatProg
import Derived.Test.YtilbfkabfgnhpaaGreatJ3
import Derived.Laws.AppendOwnNone
import Derived.Test.YtilbfkabfgnhpaaGreatJ6
import Derived.Test.YtilbfkabfgnhpaaGreatJ5
import Derived.Test.YtilbfkabfgnhpaaGreatJ1
import Derived.Maps.AppendAt
import Derived.Deep.RegionHeld3
set_option maxRecDepth 100000
set_option maxHeartbeats 16000000
set_option linter.unusedVariables false
set_option linter.unusedSimpArgs false
namespace Go.Proofs.YtilbfkabfgnhpaaGreat
section
open Go.RowKit
variable {F:Fence} {n:Nat} {P:Program} {w:World}
/-- The loop's two blocks: its record, ready, and the block for deferred calls ahead of it. -/
def Stands (L:Nat) (r:Loop) (W:World):Prop:=W.heap[L+1]? = some (.loop r)∧W.heap[L]? = some (.deferred (some []))
theorem Stands.lt {L:Nat} {r:Loop} {W:World} (h:Stands L r W):L+1<W.heap.size:=(Array.getElem?_eq_some_iff.1 h.1).1
theorem Stands.keeps {L:Nat} {r:Loop} {W W':World} (h:Stands L r W) (hk:KeepsFrom L W W'):Stands L r W':=⟨hk.same _ _ (by omega) h.1 rfl,hk.same _ _ (Nat.le_refl _) h.2 rfl⟩
theorem Stands.put {L:Nat} {r:Loop} {W:World} (h:Stands L r W) (r':Loop):Stands L r' (W.putObj (L+1) (.loop r')):=⟨World.putObj_heap_same h.lt,(World.putObj_heap_other (by omega)).trans h.2⟩
theorem Stands.grown {L:Nat} {r:Loop} {W W':World} {row:Option Nat} (h:Stands L r W) (hg:W.grownBy W' row) (hr:∀ k,row=some k→∃ o:Obj,W.heap[k]? = some o∧o.isWalk=true):Stands L r W':=
 ⟨(grownBy_keeps hg hr h.1 rfl).trans h.1,(grownBy_keeps hg hr h.2 rfl).trans h.2⟩
section
variable {α:Type} {g:Operand} {ps:Array Tmp} {assign body:Code} {Q:Exit→Act→World→Prop} {a:Act} {gf:Nat} {lb:Array Value} {encs:α→Array Value} {Kp:World→World→Prop} {Gd:List α→α→World→Prop} {S:List α→World→Prop} {w0:World}
end
end
section
open Go.RowKit
/-- An iterator's word, where a round may say 'no more': then Jx holds, and the iterator ends. -/
def PaysX {α:Type} (F:Fence) (n:Nat) (P:Program) (g:Nat) (lb:Array Value) (encs:α→Array Value) (Kp:World→World→Prop) (Gd:List α→α→World→Prop) (S:List α→World→Prop) (Sp:List α→Prop) (w:World):Prop:=
 ∀ (l:Nat) (J Jx:List α→World→Prop) (W:World),Below w.heap.size w W→AbidesFrom W.heap.size J→AbidesFrom W.heap.size Jx →
  (∀ pre x W1,J pre W1→Gd pre x W1→YieldAt F (n - 1) P l (encs x) W1 fun e W'=>(e=.returned (.bool true)∧J (pre++[x]) W'∧Kp W1 W')∨(e=.returned (.bool false)∧Jx (pre++[x]) W')) →
  J [] W→CallsIn F n P g (#[.func (.yield l) #[] #[]]++lb) W fun e W'=>(∃ v,e=.returned v)∧((∃ xs,S xs W'∧J xs W')∨(∃ xs,Sp xs∧Jx xs W'))
variable {F:Fence} {n:Nat} {P:Program} {w:World}
section
variable {α:Type} {g:Operand} {ps:Array Tmp} {assign body:Code} {Q:Exit→Act→World→Prop} {a:Act} {gf:Nat} {lb:Array Value} {encs:α→Array Value} {Kp:World→World→Prop} {Gd:List α→α→World→Prop} {S:List α→World→Prop} {Sp:List α→Prop} {w0:World}
/-- How a round's end is told to the record. -/
theorem end_round {r:Loop} {L:Nat} {W3:World} (hs:Stands L { r with state:=.busy } W3) (hp:r.pending=none) (hst:r.state=.ready) (jump:Option Code) :
    (Instr.endRound (L+1) jump).run P W3=.ok (.bool jump.isNone) (W3.putObj (L+1) (.loop { r with state:=if jump.isNone then .ready else .done,pending:=jump })):=
 run_endRound (P:=P) (r:={ r with state:=.busy }) jump hs.1
theorem round_paysX {fn:FuncId} {r:Loop} (hfn:F.fn fn) (hr:r={ state:=.ready,pending:=none,fn,tmps:=a.tmps,params:=ps,assign,body,defers:=w.heap.size })
    (hKt:∀ {A B C:World},Kp A B→Kp B C→Kp A C) (hKb:∀ (W:World) (l:Nat) (o o':Obj),w.heap.size≤l→W.heap[l]? = some o→o.isCells=false→o.isWalk=false→Kp W (W.putObj l o')) (hps:∀ x,(encs x).size=ps.size)
    (I:List α→World→Prop) (hI:OwnFrom w.heap.size I) (Ix:Code→List α→World→Prop) (hIx:∀ c,OwnFrom w.heap.size (Ix c)) (Ax:List α→α→Act→World→Prop) (hAx:∀ pre x a',OwnFrom w.heap.size (fun (_:Unit) W=>Ax pre x a' W))
    (hassign:∀ (l:Nat) (pre:List α) (x:α) (W:World) (K:Act→World→Prop),I pre W→Gd pre x W→(∀ a' W',KeepsFrom w.heap.size W W'→Kp W W'→I pre W'→Ax pre x a' W'→K a' W') →
     assign.wpIn (F.inRound l) (n - 1 - 1) P (Exit.then K (fun _ _ _=>False)) { tmps:=(ps.zip (encs x)).foldl (fun t (p,v)=>t.setIfInBounds p v) a.tmps,defers:=[] } W)
    (hbody:∀ (l:Nat) (pre:List α) (x:α) (a':Act) (W:World),I pre W→Ax pre x a' W→body.wpIn (F.inRound l) (n - 1 - 1) P (ownPostG w.heap.size Kp I Ix (pre++[x]) W) a' W)
    (pre:List α) (x:α) (W:World) (hi:I pre W) (hst:Stands w.heap.size r W) (hG:Gd pre x W) :
    YieldAt F (n - 1 - 1) P (w.heap.size+1) (encs x) W fun e W'=>(e=.returned (.bool true)∧(I (pre++[x]) W'∧Stands w.heap.size r W')∧Kp W W')∨(e=.returned (.bool false)∧∃ c,Ix c (pre++[x]) W'∧Stands w.heap.size { r with state:=.done,pending:=some c } W'):=by
 have hy:=run_yield (P:=P) (args:=encs x) hst.1 (by rw [hr];exact hps x);rw [hr] at hy;refine ⟨fn,_,assign,body,hy,roundIn_of_wpIn hfn (hassign _ pre x W _ hi hG ?_)⟩;intro a' Wa hka hkp hia hax;have hs1:=hst.keeps hka;refine ⟨_,run_beginRound hs1.1 (by rw [hr]),?_⟩;have hs2:=hs1.put { r with state:=.busy };have hk2:Kp Wa _:=hKb Wa (w.heap.size+1) _ (.loop { r with state:=.busy }) (by omega) hs1.1 rfl rfl;refine wpIn_mono (hbody _ pre x a' _ (hI.putObj _ hia (by omega) hs1.1 rfl) ((hAx pre x a').putObj (s:=()) _ hax (by omega) hs1.1 rfl)) ?_;have hrd:r.state=.ready∧r.pending=none:=by rw [hr];exact ⟨rfl,rfl⟩
 have leave:∀ (c:Code) (W3:World),KeepsFrom w.heap.size (Wa.putObj (w.heap.size+1) (.loop { r with state:=.busy })) W3→Ix c (pre++[x]) W3→∃ v W4,(Instr.endRound (w.heap.size+1) (some c)).run P W3=.ok v W4 ∧
     ((Ending.returned v=.returned (.bool true)∧(I (pre++[x]) W4∧Stands w.heap.size r W4)∧Kp W W4)∨(Ending.returned v=.returned (.bool false)∧∃ c,Ix c (pre++[x]) W4∧Stands w.heap.size { r with state:=.done,pending:=some c } W4)):=fun c W3 hk3 hi3=>by
  have hs3:=hs2.keeps hk3;exact ⟨_,_,end_round hs3 hrd.2 hrd.1 (some c),Or.inr ⟨rfl,c,(hIx c).putObj _ hi3 (by omega) hs3.1 rfl,hs3.put _⟩⟩
 rintro e a3 W3 hp
 cases e with
 | normal=>
  obtain ⟨hk3,hkp3,hi3⟩:=hp;have hs3:=hs2.keeps hk3;have he:=end_round (P:=P) hs3 hrd.2 hrd.1 none;have e4:({ r with state:=if (none:Option Code).isNone then .ready else .done,pending:=none }:Loop)=r:=by rw [hr];rfl
  rw [e4] at he;exact ⟨_,_,he,Or.inl ⟨rfl,⟨hI.putObj _ hi3 (by omega) hs3.1 rfl,hs3.put r⟩,hKt hkp (hKt hk2 (hKt hkp3 (hKb W3 (w.heap.size+1) _ _ (by omega) hs3.1 rfl rfl)))⟩⟩
 | ret=>exact leave .ret W3 hp.1 hp.2
 | exit id=>exact leave (.exit id) W3 hp.1 hp.2
 | goto t=>exact leave (.goto t) W3 hp.1 hp.2
 | panic ch=>exact hp.elim
 | outgrown=>exact hp.elim
theorem wpIn_range_paysX (hro:F.round=none) (h1:1≤n) (hg:a.eval g=.func (.func gf) #[] lb) (hFg:F.fn gf) (eg:∀ args w,(callFunc gf args).run P w=.ok (.enter gf args) w)
    (hseq:PaysX F (n - 1) P gf lb encs Kp Gd S Sp w0) (hKt:∀ {A B C:World},Kp A B→Kp B C→Kp A C) (hKb:∀ (W:World) (l:Nat) (o o':Obj),w.heap.size≤l→W.heap[l]? = some o→o.isCells=false→o.isWalk=false→Kp W (W.putObj l o')) (hb0:Below w0.heap.size w0 w) (hps:∀ x,(encs x).size=ps.size)
    (I:List α→World→Prop) (hI:OwnFrom w.heap.size I) (h0:I [] w) (hS:OwnFrom w.heap.size S) (Ix:Code→List α→World→Prop) (hIx:∀ c,OwnFrom w.heap.size (Ix c)) (Ax:List α→α→Act→World→Prop) (hAx:∀ pre x a',OwnFrom w.heap.size (fun (_:Unit) W=>Ax pre x a' W))
    (hassign:∀ (l:Nat) (pre:List α) (x:α) (W:World) (K:Act→World→Prop),I pre W→Gd pre x W→(∀ a' W',KeepsFrom w.heap.size W W'→Kp W W'→I pre W'→Ax pre x a' W'→K a' W') →
     assign.wpIn (F.inRound l) (n - 1 - 1) P (Exit.then K (fun _ _ _=>False)) { tmps:=(ps.zip (encs x)).foldl (fun t (p,v)=>t.setIfInBounds p v) a.tmps,defers:=[] } W)
    (hbody:∀ (l:Nat) (pre:List α) (x:α) (a':Act) (W:World),I pre W→Ax pre x a' W→body.wpIn (F.inRound l) (n - 1 - 1) P (ownPostG w.heap.size Kp I Ix (pre++[x]) W) a' W)
    (hdone:∀ (D:Nat) (xs:List α) (W:World),w.heap.size≤D→S xs W→I xs W→W.heap[D]? = some (.deferred (some []))→Q .normal { a with defers:={ target:=.collected D,args:=#[] } :: a.defers } W)
    (hstop:∀ (D:Nat) (c:Code) (xs:List α) (W:World),w.heap.size≤D→Sp xs→Ix c xs W→W.heap[D]? = some (.deferred (some []))→c.wpIn F n P Q { a with defers:={ target:=.collected D,args:=#[] } :: a.defers } W) :
    (Code.rangeFunc g ps assign body).wpIn F n P Q a w:=by
 refine wpIn_rangeFunc fun fn hfn => ?_;obtain ⟨r,hr⟩:∃ r:Loop,r={ state:=.ready,pending:=none,fn,tmps:=a.tmps,params:=ps,assign,body,defers:=w.heap.size }:=⟨_,rfl⟩;have hs0:Stands w.heap.size r ((w.alloc (.deferred (some []))).alloc (.loop r)):=by
  refine ⟨?_,(Below.heap_alloc _ _ _ (by simp)).trans (World.alloc_heap_new w _)⟩;have:=World.alloc_heap_new (w.alloc (.deferred (some []))) (.loop r)
  rwa [World.size_alloc] at this
 have hi0:I [] ((w.alloc (.deferred (some []))).alloc (.loop r)):=hI.alloc _ (hI.alloc _ h0);have hb1:Below w0.heap.size w0 ((w.alloc (.deferred (some []))).alloc (.loop r)):=hb0.trans ((((Below.refl _ w).alloc (Nat.le_refl _) _).alloc (by simp) _).mono hb0.size);have hz:w.heap.size≤((w.alloc (.deferred (some []))).alloc (.loop r)).heap.size:=by simp;omega
 have he:(Instr.enterLoop fn a.tmps ps assign body F.round).run P w=.ok (w.heap.size+1,[{ target:=.collected w.heap.size,args:=#[] }]) ((w.alloc (.deferred (some []))).alloc (.loop r)):=by
  rw [hro,hr];exact run_enterLoop_outer _ _ _ _ _
 generalize (w.alloc (.deferred (some []))).alloc (.loop r)=W1 at *;refine ⟨w.heap.size+1,_,W1,{ target:=.fn (.func gf) lb,args:=#[.func (.yield (w.heap.size+1)) #[] #[]] },W1,gf,#[.func (.yield (w.heap.size+1)) #[] #[]]++lb,W1,he,?_,?_,?_,fun _=>h1,?_⟩
 · simp only [resolve,hg]
   simp [go_sem]
 · intro f' hf';simp [Target.leads] at hf';subst hf';exact hFg
 · simp [invoke,go_sem,eg]
 · have hwalk:∀ {A:World} {row:Option Nat},(∀ k,row=some k→W1.heap.size≤k∧∃ o:Obj,A.heap[k]? = some o∧o.isWalk=true)→(∀ k,row=some k→w.heap.size≤k∧∃ o:Obj,A.heap[k]? = some o∧o.isCells=false):=
    fun h k e=>by obtain ⟨hB,o,ho,hw⟩:=h k e;exact ⟨by omega,o,ho,Obj.not_cells_of_walk hw⟩
   refine (hseq (w.heap.size+1) (fun pre W=>I pre W∧Stands w.heap.size r W) (fun pre W=>∃ c,Ix c pre W∧Stands w.heap.size { r with state:=.done,pending:=some c } W) W1 hb1
    (fun s A B row hs hg' hrow=>⟨hI s A B row hs.1 hg' (hwalk hrow),hs.2.grown hg' (fun k e=>(hrow k e).2)⟩)
    (fun s A B row hs hg' hrow=>by obtain ⟨c,h1,h2⟩:=hs;exact ⟨c,hIx c s A B row h1 hg' (hwalk hrow),h2.grown hg' (fun k e=>(hrow k e).2)⟩)
    (fun pre x W hJ hG=>round_paysX (n:=n) (P:=P) (w:=w) (a:=a) (Kp:=Kp) (Gd:=Gd) hfn hr (fun h h'=>hKt h h') hKb hps I hI Ix hIx Ax hAx hassign hbody pre x W hJ.1 hJ.2 hG) ⟨hi0,hs0⟩).mono ?_
   rintro e W2 ⟨⟨v,rfl⟩,⟨xs,hxs,hi,hst⟩ | ⟨xs,hsp,c,hi,hst⟩⟩
   · have hend:=run_endLoop (P:=P) hst.1 (by rw [hr];simp)
     have hp:r.pending=none:=by rw [hr]
     rw [hp] at hend;exact ⟨none,_,hend,hdone _ xs _ (Nat.le_refl _) (hS.putObj _ hxs (by omega) hst.1 rfl) (hI.putObj _ hi (by omega) hst.1 rfl) ((World.putObj_heap_other (by omega)).trans hst.2)⟩
   · have hend:=run_endLoop (P:=P) hst.1 (by simp)
     exact ⟨some c,_,hend,hstop _ c xs _ (Nat.le_refl _) hsp ((hIx c).putObj _ hi (by omega) hst.1 rfl) ((World.putObj_heap_other (by omega)).trans hst.2)⟩
end
end
section
open Go.RowKit
/-- A block of cells. -/
def BoxA (w:World) (B ty:Nat) (xs:Array Value):Prop:=w.heap[B]? = some (.cells xs ty (0,0))
section
variable {w w':World} {B ty base:Nat} {xs:Array Value}
theorem boxA_new (w:World) (xs:Array Value) (ty:Nat):BoxA (w.alloc (.cells xs ty)) w.heap.size ty xs:=heap_alloc_new _ _
theorem BoxA.lt (h:BoxA w B ty xs):B<w.heap.size:=by
 unfold BoxA at h;exact (Array.getElem?_eq_some_iff.1 h).1
theorem BoxA.below (h:BoxA w B ty xs) (hb:Below base w w') (hB:B<base):BoxA w' B ty xs:=by
 unfold BoxA at *;rw [hb.block B hB];exact h
theorem BoxA.cell (h:BoxA w B ty xs) (i:Nat) {v:Value} (hv:xs[i]? = some v):w.cell? ⟨B,i,none⟩=some v:=by
 unfold BoxA at h;simp [World.cell?,h,hv]
theorem BoxA.frozen (h:BoxA w B ty xs) (i:Nat):w.frozen? ⟨B,i,none⟩=false:=by
 unfold BoxA at h;simp [World.frozen?,h]
end
theorem BoxA.num {w:World} {B ty:Nat} {b:Bool} {a1 a2:Option Addr} {n1 n2 c1 c2:Nat} (h:BoxA w B ty #[.int .u8 1,.bool b,.slice a1 n1 c1,.slice a2 n2 c2,.int .i32 0,.slice none 0 0]) :
    w.cell? ⟨B,0,none⟩=some (.int .u8 1)∧w.cell? ⟨B,1,none⟩=some (.bool b)∧w.cell? ⟨B,2,none⟩=some (.slice a1 n1 c1)∧w.cell? ⟨B,3,none⟩=some (.slice a2 n2 c2)∧w.cell? ⟨B,4,none⟩=some (.int .i32 0)∧w.cell? ⟨B,5,none⟩=some (.slice none 0 0):=
 ⟨h.cell 0 rfl,h.cell 1 rfl,h.cell 2 rfl,h.cell 3 rfl,h.cell 4 rfl,h.cell 5 rfl⟩
section
variable {w:World} {b:Bool} {a1 a2:Option Addr} {n1 n2 c1 c2:Nat}
theorem number_any :
    Calls Tryz.prog 77 #[.agg #[.bool b,.slice a1 n1 c1,.slice a2 n2 c2]] w fun e w'=>e=.returned (.agg #[.int .u8 1,.bool b,.slice a1 n1 c1,.slice a2 n2 c2,.int .i32 0,.slice none 0 0])∧Below w.heap.size w w':=by
 have hb:=boxA_new (w.alloc (.cells #[.bool b,.slice a1 n1 c1,.slice a2 n2 c2] 24)) #[.int .u8 1,.bool b,.slice a1 n1 c1,.slice a2 n2 c2,.int .i32 0,.slice none 0 0] 93;rw [World.size_alloc] at hb;have g:=((Below.refl w.heap.size w).alloc (Nat.le_refl _) (.cells #[.bool b,.slice a1 n1 c1,.slice a2 n2 c2] 24)).alloc (by simp) (.cells #[.int .u8 1,.bool b,.slice a1 n1 c1,.slice a2 n2 c2,.int .i32 0,.slice none 0 0] 93);go_enter Tryz.func77,Tryz.ntmps77;go_wp2
 obtain ⟨r0,r1,r2,r3,r4,r5⟩:=hb.num;refine bodyPost_ret (v:=.agg #[.int .u8 1,.bool b,.slice a1 n1 c1,.slice a2 n2 c2,.int .i32 0,.slice none 0 0]) (by simp [results,Tryz.results77,go_sem,r0,r1,r2,r3,r4,r5]) rfl ?_;exact ⟨rfl,g⟩
theorem scalar_any :
    Calls Tryz.prog 79 #[.agg #[.int .u8 1,.bool b,.slice a1 n1 c1,.slice a2 n2 c2,.int .i32 0,.slice none 0 0]] w fun e w'=>∃ k,e=.returned (.agg #[.slice none 0 0,.slice (some ⟨k,0,none⟩) 1 1])∧w.heap.size≤k∧BoxA w' k 93 #[.int .u8 1,.bool b,.slice a1 n1 c1,.slice a2 n2 c2,.int .i32 0,.slice none 0 0]∧Below w.heap.size w w':=by
 have g1:=(Below.refl w.heap.size w).alloc (Nat.le_refl _) (.cells #[.int .u8 1,.bool b,.slice a1 n1 c1,.slice a2 n2 c2,.int .i32 0,.slice none 0 0] 93);have g2:=g1.alloc (by simp) (.cells #[.slice none 0 0,.slice (some ⟨w.heap.size+1+1,0,none⟩) 1 1] 51);have g3:=g2.alloc (by simp;omega) (.cells #[.int .u8 1,.bool b,.slice a1 n1 c1,.slice a2 n2 c2,.int .i32 0,.slice none 0 0] 93);have hk:=boxA_new ((w.alloc (.cells #[.int .u8 1,.bool b,.slice a1 n1 c1,.slice a2 n2 c2,.int .i32 0,.slice none 0 0] 93)).alloc (.cells #[.slice none 0 0,.slice (some ⟨w.heap.size+1+1,0,none⟩) 1 1] 51)) #[.int .u8 1,.bool b,.slice a1 n1 c1,.slice a2 n2 c2,.int .i32 0,.slice none 0 0] 93;rw [World.size_alloc,World.size_alloc] at hk;have hb:=boxA_new (w.alloc (.cells #[.int .u8 1,.bool b,.slice a1 n1 c1,.slice a2 n2 c2,.int .i32 0,.slice none 0 0] 93)) #[.slice none 0 0,.slice (some ⟨w.heap.size+1+1,0,none⟩) 1 1] 51;have hb2:=hb.below (below_alloc _ (.cells #[.int .u8 1,.bool b,.slice a1 n1 c1,.slice a2 n2 c2,.int .i32 0,.slice none 0 0] 93)) (by simp);rw [World.size_alloc] at hb2;go_enter Tryz.func79,Tryz.ntmps79;go_wp2
 have r0:=hb2.cell 0 rfl;have r1:=hb2.cell 1 rfl;refine bodyPost_ret (v:=.agg #[.slice none 0 0,.slice (some ⟨w.heap.size+1+1,0,none⟩) 1 1]) (by simp [results,Tryz.results79,go_sem,r0,r1]) rfl ?_;exact ⟨_,rfl,by omega,hk,g3⟩
end
section
variable {w w':World} {B ty base:Nat} {u0 u1 u2 u3 u4 u5:Value}
theorem BoxA.set6 (h:BoxA w B ty #[u0,u1,u2,u3,u4,u5]) (v0 v1 v2 v3 v4 v5:Value):BoxA ((((((w.setCell ⟨B,0,none⟩ v0).setCell ⟨B,1,none⟩ v1).setCell ⟨B,2,none⟩ v2).setCell ⟨B,3,none⟩ v3).setCell ⟨B,4,none⟩ v4).setCell ⟨B,5,none⟩ v5) B ty #[v0,v1,v2,v3,v4,v5]:=by
 unfold BoxA at h ⊢;simp [World.setCell,Array.getElem?_modify,h]
theorem Below.set6 (h:Below base w w') (hB:base≤B) (v0 v1 v2 v3 v4 v5:Value):Below base w ((((((w'.setCell ⟨B,0,none⟩ v0).setCell ⟨B,1,none⟩ v1).setCell ⟨B,2,none⟩ v2).setCell ⟨B,3,none⟩ v3).setCell ⟨B,4,none⟩ v4).setCell ⟨B,5,none⟩ v5):=
 (((((h.setCell (p:=⟨B,0,none⟩) hB _).setCell (p:=⟨B,1,none⟩) hB _).setCell (p:=⟨B,2,none⟩) hB _).setCell (p:=⟨B,3,none⟩) hB _).setCell (p:=⟨B,4,none⟩) hB _).setCell (p:=⟨B,5,none⟩) hB _
theorem Own.set6 {v:Value} {xs:List Int} (h:Own base w v xs) (hB:B<base) (v0 v1 v2 v3 v4 v5:Value):Own base ((((((w.setCell ⟨B,0,none⟩ v0).setCell ⟨B,1,none⟩ v1).setCell ⟨B,2,none⟩ v2).setCell ⟨B,3,none⟩ v3).setCell ⟨B,4,none⟩ v4).setCell ⟨B,5,none⟩ v5) v xs:=by
 have e:v.ownBlock≠some B:=ownBlock_ne h hB;exact (((((h.setCell (a:=⟨B,0,none⟩) e _).setCell (a:=⟨B,1,none⟩) e _).setCell (a:=⟨B,2,none⟩) e _).setCell (a:=⟨B,3,none⟩) e _).setCell (a:=⟨B,4,none⟩) e _).setCell (a:=⟨B,5,none⟩) e _
end
/-- An item: its kind, sign, limbs of both, character, boxes. An array: its lengths stand in ns, its items in kids. -/
inductive Tr where
 | mk (k:Int) (b:Bool) (ns ds:List Int) (c:Int) (kids:List Tr):Tr
def Tr.k:Tr→Int | .mk k _ _ _ _ _=>k
def Tr.b:Tr→Bool | .mk _ b _ _ _ _=>b
def Tr.ns:Tr→List Int | .mk _ _ ns _ _ _=>ns
def Tr.ds:Tr→List Int | .mk _ _ _ ds _ _=>ds
def Tr.c:Tr→Int | .mk _ _ _ _ c _=>c
def Tr.kids:Tr→List Tr | .mk _ _ _ _ _ l=>l
def tr0:Tr:=.mk 0 false [] [] 0 []
def arrT (sh:List Int) (its:List Tr):Tr:=.mk 0 false sh [] 0 its
def numT (b:Bool) (ns ds:List Int):Tr:=.mk 1 b ns ds 0 []
/-- The blocks that D tells are the same. -/
def Agree (D:Nat→Prop) (w w':World):Prop:=∀ g,D g→w'.heap[g]? = w.heap[g]?
theorem Agree.cell {D:Nat→Prop} {w w':World} (h:Agree D w w') {g o:Nat} (hg:D g):w'.cell? ⟨g,o,none⟩=w.cell? ⟨g,o,none⟩:=World.cell?_of_block (w:=w) (h g hg)
theorem Agree.of {D:Nat→Prop} {B:Nat} {w w':World} (h:Below B w w') (hD:∀ g,D g→g<B):Agree D w w':=fun g hg=>h.block g (hD g hg)
/-- A slice of limbs. -/
def RdL (D:Nat→Prop) (w:World) (v:Value) (xs:List Int):Prop:=
 lim xs∧∃ a cap,v=.slice a xs.length cap∧xs.length≤cap∧cap≤9223372036854775807∧(a=none→cap=0) ∧
  (xs.length=0∨∃ b off,a=some ⟨b,off,none⟩∧D b∧∀ j,j<xs.length→w.cell? ⟨b,off+j,none⟩=some (.int .u32 (xs.getD j 0)))
theorem RdL.imp {D D':Nat→Prop} {w w':World} {v:Value} {xs:List Int} (h:RdL D w v xs) (hD:∀ g,D g→D' g) (hb:Agree D w w'):RdL D' w' v xs:=by
 obtain ⟨h0,a,cap,rfl,h1,h2,h3,h4⟩:=h;refine ⟨h0,a,cap,rfl,h1,h2,h3,?_⟩;rcases h4 with h4 | ⟨b,off,rfl,hlt,hc⟩
 · exact Or.inl h4
 · exact Or.inr ⟨b,off,rfl,hD b hlt,fun j hj=>(hb.cell hlt).trans (hc j hj)⟩
theorem RdL.rd {D:Nat→Prop} {B:Nat} {w:World} {v:Value} {xs:List Int} (h:RdL D w v xs) (hD:∀ g,D g→g<B):Rd B w v xs:=by
 obtain ⟨h0,a,cap,rfl,h1,h2,h3,h4⟩:=h;refine ⟨h0,a,cap,rfl,h1,h2,h3,?_⟩;rcases h4 with h4 | ⟨b,off,rfl,hlt,hc⟩
 · exact Or.inl h4
 · exact Or.inr ⟨b,off,rfl,hD b hlt,hc⟩
theorem RdL.of_own {base:Nat} {w:World} {v:Value} {xs:List Int} (h:Own base w v xs):RdL (fun g=>base≤g∧g<w.heap.size) w v xs:=by
 obtain ⟨h0,hl,h | ⟨g,cap,cur,rfl,hg,hh,h1,h2,h3,h4⟩⟩:=h
 · obtain ⟨rfl,hz⟩:=h
   have:xs=[]:=List.eq_nil_of_length_eq_zero hz;subst this;exact ⟨h0,none,0,rfl,Nat.le_refl _,by omega,fun _=>rfl,Or.inl rfl⟩
 · refine ⟨h0,_,cap,rfl,h1,by unfold maxLen at h2;omega,(fun h=>by cases h),Or.inr ⟨g,0,rfl,⟨hg,(Array.getElem?_eq_some_iff.1 hh).1⟩,fun j hj => ?_⟩⟩
   have e:cur.toList[j]? = (xs.map (Value.int .u32))[j]?:=by rw [← h4,List.getElem?_take];simp;omega
   rw [getD_map_u32 xs j hj] at e;simp only [World.cell?,hh,Nat.zero_add];simpa using e
/-- A slice of ints. -/
def RdN (D:Nat→Prop) (w:World) (v:Value) (xs:List Int):Prop:=
 (∀ x∈xs,-9223372036854775808≤x∧x≤9223372036854775807)∧∃ a cap,v=.slice a xs.length cap∧xs.length≤cap∧cap≤9223372036854775807∧(a=none→cap=0) ∧
  (xs.length=0∨∃ b off,a=some ⟨b,off,none⟩∧D b∧∀ j,j<xs.length→w.cell? ⟨b,off+j,none⟩=some (.int .i64 (xs.getD j 0)))
theorem RdN.imp {D D':Nat→Prop} {w w':World} {v:Value} {xs:List Int} (h:RdN D w v xs) (hD:∀ g,D g→D' g) (hb:Agree D w w'):RdN D' w' v xs:=by
 obtain ⟨h0,a,cap,rfl,h1,h2,h3,h4⟩:=h;refine ⟨h0,a,cap,rfl,h1,h2,h3,?_⟩;rcases h4 with h4 | ⟨b,off,rfl,hlt,hc⟩
 · exact Or.inl h4
 · exact Or.inr ⟨b,off,rfl,hD b hlt,fun j hj=>(hb.cell hlt).trans (hc j hj)⟩
/-- A slice of n things: what is so of each, by its block, the slice's place in it, and its number. -/
def RowB (D:Nat→Prop) (n:Nat) (v:Value) (C:Nat→Nat→Nat→Prop):Prop:=
 ∃ a cap,v=.slice a n cap∧n≤cap∧cap≤9223372036854775807∧(a=none→cap=0)∧(n=0∨∃ g o,a=some ⟨g,o,none⟩∧D g∧∀ j,j<n→C g o j)
theorem RowB.imp {D D':Nat→Prop} {n:Nat} {v:Value} {C C':Nat→Nat→Nat→Prop} (h:RowB D n v C) (hD:∀ g,D g→D' g) (hC:∀ g o j,D g→j<n→C g o j→C' g o j):RowB D' n v C':=by
 obtain ⟨a,cap,rfl,h1,h2,h3,h4⟩:=h;refine ⟨a,cap,rfl,h1,h2,h3,?_⟩;rcases h4 with h4 | ⟨g,o,rfl,hlt,hc⟩
 · exact Or.inl h4
 · exact Or.inr ⟨g,o,rfl,hD g hlt,fun j hj=>hC g o j hlt hj (hc j hj)⟩
/-- What an item's slices are. -/
structure ItV (P:Value→Value→Tr→Prop) (D:Nat→Prop) (w:World) (a1:Option Addr) (c1:Nat) (a2:Option Addr) (c2:Nat) (a3:Option Addr) (c3:Nat) (t:Tr):Prop where
 rn:RdL D w (.slice a1 t.ns.length c1) t.ns
 rd:RdL D w (.slice a2 t.ds.length c2) t.ds
 bx:RowB D t.kids.length (.slice a3 t.kids.length c3) (fun g o j=>∃ x1 n1 y1 x2 n2 y2,w.cell? ⟨g,o+j*2,none⟩=some (.slice x1 n1 y1)∧w.cell? ⟨g,o+j*2+1,none⟩=some (.slice x2 n2 y2)∧P (.slice x1 n1 y1) (.slice x2 n2 y2) (t.kids.getD j tr0))
/-- An item's cells. -/
def ItC (P:Value→Value→Tr→Prop) (D:Nat→Prop) (w:World) (g o:Nat) (t:Tr):Prop:=
 ∃ a1 c1 a2 c2 a3 c3,(w.cell? ⟨g,o,none⟩=some (.int .u8 t.k)∧w.cell? ⟨g,o+1,none⟩=some (.bool t.b)∧w.cell? ⟨g,o+2,none⟩=some (.slice a1 t.ns.length c1)∧w.cell? ⟨g,o+3,none⟩=some (.slice a2 t.ds.length c2)∧w.cell? ⟨g,o+4,none⟩=some (.int .i32 t.c)∧w.cell? ⟨g,o+5,none⟩=some (.slice a3 t.kids.length c3))∧ItV P D w a1 c1 a2 c2 a3 c3 t
/-- An array's two slices, so many levels deep at most. -/
def ArV:Nat→(Nat→Prop)→World→Value→Value→Tr→Prop
 | 0,_,_,_,_,_=>False
 | f+1,D,w,v1,v2,t=>RdN D w v1 t.ns∧RowB D t.kids.length v2 (fun g o j=>ItC (ArV f D w) D w g (o+j*6) (t.kids.getD j tr0))
theorem ItV.imp {P P':Value→Value→Tr→Prop} {D D':Nat→Prop} {w w':World} {a1 a2 a3:Option Addr} {c1 c2 c3:Nat} {t:Tr} (h:ItV P D w a1 c1 a2 c2 a3 c3 t) (hD:∀ g,D g→D' g) (hb:Agree D w w') (hP:∀ v1 v2 t,P v1 v2 t→P' v1 v2 t):ItV P' D' w' a1 c1 a2 c2 a3 c3 t:=
 ⟨h.rn.imp hD hb,h.rd.imp hD hb,h.bx.imp hD (fun g o j hg hj ⟨x1,n1,y1,x2,n2,y2,e1,e2,e3⟩=>⟨x1,n1,y1,x2,n2,y2,(hb.cell hg).trans e1,(hb.cell hg).trans e2,hP _ _ _ e3⟩)⟩
theorem ItC.imp {P P':Value→Value→Tr→Prop} {D D':Nat→Prop} {w w':World} {g o:Nat} {t:Tr} (h:ItC P D w g o t) (hg:D g) (hD:∀ g,D g→D' g) (hb:Agree D w w') (hP:∀ v1 v2 t,P v1 v2 t→P' v1 v2 t):ItC P' D' w' g o t:=by
 obtain ⟨a1,c1,a2,c2,a3,c3,⟨e0,e1,e2,e3,e4,e5⟩,hv⟩:=h;exact ⟨a1,c1,a2,c2,a3,c3,⟨(hb.cell hg).trans e0,(hb.cell hg).trans e1,(hb.cell hg).trans e2,(hb.cell hg).trans e3,(hb.cell hg).trans e4,(hb.cell hg).trans e5⟩,hv.imp hD hb hP⟩
theorem ArV.imp {D D':Nat→Prop} {w w':World} (hD:∀ g,D g→D' g) (hb:Agree D w w'):∀ (f f':Nat) (v1 v2:Value) (t:Tr),f≤f'→ArV f D w v1 v2 t→ArV f' D' w' v1 v2 t
 | 0,_,_,_,_,_,h=>h.elim
 | f+1,0,_,_,_,hf,h=>by omega
 | f+1,f'+1,v1,v2,t,hf,h=>⟨h.1.imp hD hb,h.2.imp hD (fun g o j hg hj hc=>hc.imp hg hD hb (fun u1 u2 s hs=>ArV.imp hD hb f f' u1 u2 s (by omega) hs))⟩
theorem ArV.agree {D:Nat→Prop} {f:Nat} {w w':World} {v1 v2:Value} {t:Tr} (h:ArV f D w v1 v2 t) (hb:Agree D w w'):ArV f D w' v1 v2 t:=ArV.imp (fun _ h=>h) hb f f v1 v2 t (Nat.le_refl _) h
theorem ArV.mono {D D':Nat→Prop} {f:Nat} {w:World} {v1 v2:Value} {t:Tr} (h:ArV f D w v1 v2 t) (hD:∀ g,D g→D' g):ArV f D' w v1 v2 t:=ArV.imp hD (fun _ _=>rfl) f f v1 v2 t (Nat.le_refl _) h
theorem ItV.agree {D:Nat→Prop} {f:Nat} {w w':World} {a1 a2 a3:Option Addr} {c1 c2 c3:Nat} {t:Tr} (h:ItV (ArV f D w) D w a1 c1 a2 c2 a3 c3 t) (hb:Agree D w w'):ItV (ArV f D w') D w' a1 c1 a2 c2 a3 c3 t:=h.imp (fun _ h=>h) hb (fun _ _ _ h=>h.agree hb)
theorem RowB.len {D:Nat→Prop} {n m:Nat} {a:Option Addr} {c:Nat} {C:Nat→Nat→Nat→Prop} (h:RowB D n (.slice a m c) C):m=n:=by
 obtain ⟨a',c',e,_⟩:=h
 cases e;rfl
theorem RdN.len {D:Nat→Prop} {m:Nat} {w:World} {a:Option Addr} {c:Nat} {xs:List Int} (h:RdN D w (.slice a m c) xs):m=xs.length:=by
 obtain ⟨_,a',c',e,_⟩:=h
 cases e;rfl
theorem RowB.bounds {D:Nat→Prop} {n:Nat} {a:Option Addr} {c:Nat} {C:Nat→Nat→Nat→Prop} (h:RowB D n (.slice a n c) C):n≤c∧c≤9223372036854775807:=by
 obtain ⟨a',c',e,h1,h2,_⟩:=h
 cases e;exact ⟨h1,h2⟩
theorem RowB.ptr {D:Nat→Prop} {n:Nat} {a:Option Addr} {c:Nat} {C:Nat→Nat→Nat→Prop} (h:RowB D n (.slice a n c) C) (h0:0<n):∃ g o,a=some ⟨g,o,none⟩∧D g∧∀ j,j<n→C g o j:=by
 obtain ⟨a',c',e,_,_,_,h4⟩:=h
 cases e
 rcases h4 with h4 | h4
 · omega
 · exact h4
theorem RdN.bounds {D:Nat→Prop} {w:World} {a:Option Addr} {c:Nat} {xs:List Int} (h:RdN D w (.slice a xs.length c) xs):xs.length≤c∧c≤9223372036854775807:=by
 obtain ⟨_,a',c',e,h1,h2,_⟩:=h;obtain ⟨rfl,_,rfl⟩:=Value.slice.inj e;exact ⟨h1,h2⟩
theorem RdN.ptr {D:Nat→Prop} {w:World} {a:Option Addr} {c:Nat} {xs:List Int} (h:RdN D w (.slice a xs.length c) xs) (h0:0<xs.length):∃ g o,a=some ⟨g,o,none⟩∧D g∧∀ j,j<xs.length→w.cell? ⟨g,o+j,none⟩=some (.int .i64 (xs.getD j 0)):=by
 obtain ⟨_,a',c',e,_,_,_,h4⟩:=h;obtain ⟨rfl,_,rfl⟩:=Value.slice.inj e;rcases h4 with h4 | h4
 · omega
 · exact h4
/-- A result's variable. -/
structure RVar (w:World) (k:Nat):Prop where
 lt:k<w.heap.size
 box:Box3 w k 24 (.bool false) (.slice none 0 0) (.slice none 0 0)
theorem RVar.below {w w':World} {k:Nat} (h:RVar w k) (hb:Below w.heap.size w w'):RVar w' k:=⟨Nat.lt_of_lt_of_le h.lt hb.size,h.box.below hb h.lt⟩
theorem rvar_new (w:World):RVar (w.alloc (.cells #[.bool false,.slice none 0 0,.slice none 0 0] 24)) w.heap.size:=⟨by simp,box3_new _ _ _ _ _⟩
/-- The size of the whole number next to a number: further away from 0, or nearer. -/
def wholeM (f:Bool) (n d:Int):Int:=n/d+if f=true∧¬ n % d=0 then 1 else 0
theorem div_unique {n d q r:Int} (h:n=q*d+r) (h0:0≤r) (h1:r<d):q=n/d∧r=n % d:=by
 have hd:0<d:=by omega
 have e1:n/d=q:=by
  rw [h,Int.add_comm,Int.add_mul_ediv_right _ _ (by omega),Int.ediv_eq_zero_of_lt h0 h1];omega
 refine ⟨e1.symm,?_⟩;have e2:=Int.emod_def n d;rw [e1] at e2;rw [e2,h,Int.mul_comm d];omega
theorem floor_whole (b:Bool) (n d:Int) (hn:0≤n) (hd:0<d):sg b (wholeM b n d)=sg b n/d:=by
 have hm0:=Int.emod_nonneg n (show d≠0 by omega);have hm1:=Int.emod_lt_of_pos n hd;have he:n/d*d+n % d=n:=by rw [Int.mul_comm];exact Int.mul_ediv_add_emod n d
 unfold wholeM sg
 cases b with
 | false=>simp
 | true=>
  by_cases h0:n % d=0
  · simp only [h0,not_true_eq_false,and_false,if_false,if_true,Int.add_zero]
    exact (div_unique (r:=0) (by rw [Int.neg_mul];omega) (by omega) hd).1
  · simp only [h0,not_false_eq_true,and_true,if_true]
    refine (div_unique (r:=d - n % d) ?_ (by omega) (by omega)).1;rw [Int.neg_mul,Int.add_mul];omega
theorem one_val:val [(1:Int)]=1:=by decide
theorem can_add_one {q r:List Int} (c:can r):(0<r.length↔¬ val r=0):=by
 have:=can_zero c;omega
section
variable {B:Nat} {w:World} {bx:Bool} {a1 a2:Option Addr} {c1 c2:Nat} {xn xd:List Int}
theorem whole_rat (f:Bool) (h1:Rd w.heap.size w (.slice a1 xn.length c1) xn) (h2:Rd w.heap.size w (.slice a2 xd.length c2) xd) :
    Calls Tryz.prog 115 #[.agg #[.bool bx,.slice a1 xn.length c1,.slice a2 xd.length c2],.bool f] w fun e w'=>Gives w (RightP bx xn xd) (sg bx (wholeM f (val xn) (val xd))) 1 e w':=by
 have X:=nvar_new (b:=bx) h1 h2;have g:=below_alloc w (.cells #[.bool bx,.slice a1 xn.length c1,.slice a2 xd.length c2] 24);have R:=rvar_new (w.alloc (.cells #[.bool bx,.slice a1 xn.length c1,.slice a2 xd.length c2] 24));have ka:=below_alloc (w.alloc (.cells #[.bool bx,.slice a1 xn.length c1,.slice a2 xd.length c2] 24)) (.cells #[.bool false,.slice none 0 0,.slice none 0 0] 24);rw [World.size_alloc] at R;replace X:=X.below ka;replace g:=g.trans (ka.mono g.size);clear ka h1 h2;obtain ⟨x0,x1,x2⟩:=X.cells;go_enter Tryz.func115,Tryz.ntmps115
 go_wp2_with fail
 clear x0 x1 x2;generalize hA:(w.alloc (.cells #[.bool bx,.slice a1 xn.length c1,.slice a2 xd.length c2] 24)).alloc (.cells #[.bool false,.slice none 0 0,.slice none 0 0] 24)=v at *;clear hA;refine (right_rat X.rn X.rd (Nat.le_refl _)).mono ?_;rintro e wa ⟨⟨r,rfl,hr⟩,ka⟩;replace X:=X.below ka;replace R:=R.below ka;replace g:=g.trans (ka.mono g.size)
 cases r with
 | false=>
  have HP:Hid (¬ RightP bx xn xd):=fun h=>by have:=hr.2 h;cases this
  clear hr;have q0:=R.box.c0;have q1:=R.box.c1;have q2:=R.box.c2;have p0:=R.box.f0;have p1:=R.box.f1;have p2:=R.box.f2;go_wp2
  have hR3:=R.box.set (.bool false) (.slice none 0 0) (.slice none 0 0);have r0:=hR3.c0;have r1:=hR3.c1;have r2:=hR3.c2;refine bodyPost_ret (v:=.tuple #[.agg #[.bool false,.slice none 0 0,.slice none 0 0],.int .i64 22]) (by simp [results,Tryz.results115,go_sem,r0,r1,r2]) rfl ?_;exact gives_err HP.out (Below.set3 g (by omega) _ _ _)
 | true=>
  have HP:Hid (RightP bx xn xd):=hr.1 rfl;clear hr;have l1:=HP.out.1;have l2:=HP.out.2.1;have l3:=HP.out.2.2.2.2.2.1;have ga:=g;have Ra:=R;have s1:w.heap.size≤wa.heap.size:=g.size;have hcells2:∀ {w':World},Below wa.heap.size wa w'→w'.cell? ⟨w.heap.size,0,none⟩=some (.bool bx):=fun hb=>(X.below hb).k0;have X2:∀ {w':World},Below wa.heap.size wa w'→NVar w' w.heap.size bx a1 xn c1 a2 xd c2:=fun hb=>X.below hb;obtain ⟨x0,x1,x2⟩:=X.cells
  go_wp2_with fail
  clear x0 x1 x2;refine (divMod_any X.rn (Nat.le_refl _) X.rd (Nat.le_refl _) (by have:=(right_pos HP.out).1;omega) (by omega) (by omega)).mono ?_;rintro e wb ⟨qs,rs,a5,c5,a6,c6,rfl,oq,or,cq,cr,hv,hl,lq,lr,kb⟩;have HU:Hid (val qs=val xn/val xd∧val rs=val xn % val xd):=div_unique hv (val_bound cr.1).1 hl;clear hv hl;replace X:=X.below kb;have t1:Below wa.heap.size wa wb:=kb;clear kb R g;have HRS:Hid (0<rs.length↔¬ val rs=0):=can_add_one (q:=qs) cr;by_cases hcs:f=true∧0<rs.length
  · obtain ⟨rfl,hrl⟩:=hcs
    have HM:Hid (wholeM true (val xn) (val xd)=val qs+1):=by
     unfold Hid wholeM;rw [if_pos ⟨rfl,by rw [← HU.out.2];exact HRS.out.1 hrl⟩,HU.out.1]
    have HF:Hid (wholeM true (val xn) (val xd)=val qs+1):=HM
    go_wp2_with fail
    refine (one_any _).mono ?_;rintro e wc ⟨a7,c7,rfl,o7,kc⟩;replace X:=X.below kc;have t3:Below wa.heap.size wa wc:=t1.trans (kc.mono t1.size);have oqc:=oq.below kc (Nat.le_refl _)
    go_wp2_with fail
    refine (sum2 oqc.rd o7.rd (Nat.le_refl _) (Nat.le_refl _) (by omega) (by simp)).mono ?_;rintro e wd ⟨zs,cz,vz,lz,a8,c8,rfl,o8,kd⟩;have HZ:Hid (val zs=wholeM true (val xn) (val xd)):=by
     unfold Hid;rw [vz,HM.out,one_val]
    clear vz;replace X:=X.below kd;have t4:Below wa.heap.size wa wd:=t3.trans (kd.mono t3.size);have o9:Own wa.heap.size wd (.slice a8 zs.length c8) zs:=o8.mono t3.size;have x0:=X.k0;have hcells:∀ {w':World},Below wd.heap.size wd w'→w'.cell? ⟨w.heap.size,0,none⟩=some (.bool bx):=fun hb=>(X.below hb).k0;have hne:w.heap.size+1≠w.heap.size:=by omega
    go_wp2
    go_region_held3 (fun w'=>w'.cell? ⟨w.heap.size,0,none⟩=some (.bool bx))
     (first | (go_keep;done) | exact tw | exact tw2 | exact (((Xf.box.apart (p:=⟨w.heap.size+1,0,none⟩) (by exact hne) _).apart (p:=⟨w.heap.size+1,1,none⟩) (by exact hne) _).apart (p:=⟨w.heap.size+1,2,none⟩) (by exact hne) _).c0)
     (first
      | (go_at_call 114;refine (one_any _).mono ?_;intro e we hm;obtain ⟨x2,y2,rfl,o3,bf⟩:=Makes.undrew hm;have tw:=hcells bf;have t2:Below wa.heap.size wa we:=t4.trans (bf.mono t4.size))
      | (go_at_call 121;refine (limited_any (b:=bx) (sg bx (wholeM true (val xn) (val xd))) 1 t2 (o9.below bf (Nat.le_refl _)) (o3.mono t4.size) cz can_one (by simp) (by rw [one_val];exact gI_one_right _) (by rw [one_val,HZ.out])).mono ?_;intro e wf hm6;obtain ⟨bm6,b6,x5,n5,y5,x6,n6,y6,err,rfl,hform⟩:=hm6.form;have tw2:=hcells2 bm6;have Xf:=X2 bm6;have Rf:=Ra.below bm6;have q0:=Rf.box.c0;have q1:=Rf.box.c1;have q2:=Rf.box.c2;have p0:=Rf.box.f0;have p1:=Rf.box.f1;have p2:=Rf.box.f2))
    all_goals
     go_wp2
     have hR3:=Rf.box.set (.bool b6) (.slice x5 n5 y5) (.slice x6 n6 y6);have r0:=hR3.c0;have r1:=hR3.c1;have r2:=hR3.c2;refine bodyPost_ret (v:=.tuple #[.agg #[.bool b6,.slice x5 n5 y5,.slice x6 n6 y6],.int .i64 err]) (by simp [results,Tryz.results115,go_sem,r0,r1,r2]) rfl ?_;exact (rform_done ga (by omega) Ra.lt bm6 hform).gives HP.out
  · have HM:Hid (val qs=wholeM f (val xn) (val xd)):=by
     unfold Hid wholeM;rw [if_neg,Int.add_zero]
     · exact HU.out.1
     · rintro ⟨hf,h0⟩
       exact hcs ⟨hf,HRS.out.2 (by rw [HU.out.2];exact h0)⟩
    have hcs2:f=false∨(f=true∧¬ 0<rs.length):=by
     cases f with
     | false=>exact Or.inl rfl
     | true=>exact Or.inr ⟨rfl,fun h=>hcs ⟨rfl,h⟩⟩
    clear hcs;have hqo:Own wa.heap.size wb (.slice a5 qs.length c5) qs:=oq;rcases hcs2 with rfl | ⟨rfl,hr0⟩
    · have x0:=X.k0
      have hcells:∀ {w':World},Below wb.heap.size wb w'→w'.cell? ⟨w.heap.size,0,none⟩=some (.bool bx):=fun hb=>(X.below hb).k0;have hne:w.heap.size+1≠w.heap.size:=by omega
      go_wp2
      go_region_held3 (fun w'=>w'.cell? ⟨w.heap.size,0,none⟩=some (.bool bx))
       (first | (go_keep;done) | exact tw | exact tw2 | exact (((Xf.box.apart (p:=⟨w.heap.size+1,0,none⟩) (by exact hne) _).apart (p:=⟨w.heap.size+1,1,none⟩) (by exact hne) _).apart (p:=⟨w.heap.size+1,2,none⟩) (by exact hne) _).c0)
       (first
        | (go_at_call 114;refine (one_any _).mono ?_;intro e we hm;obtain ⟨x2,y2,rfl,o3,bf⟩:=Makes.undrew hm;have tw:=hcells bf;have t2:Below wa.heap.size wa we:=t1.trans (bf.mono t1.size))
        | (go_at_call 121;refine (limited_any (b:=bx) (sg bx (wholeM false (val xn) (val xd))) 1 t2 (hqo.below bf (Nat.le_refl _)) (o3.mono t1.size) cq can_one (by simp) (by rw [one_val];exact gI_one_right _) (by rw [one_val,HM.out])).mono ?_;intro e wf hm6;obtain ⟨bm6,b6,x5,n5,y5,x6,n6,y6,err,rfl,hform⟩:=hm6.form;have tw2:=hcells2 bm6;have Xf:=X2 bm6;have Rf:=Ra.below bm6;have q0:=Rf.box.c0;have q1:=Rf.box.c1;have q2:=Rf.box.c2;have p0:=Rf.box.f0;have p1:=Rf.box.f1;have p2:=Rf.box.f2))
      all_goals
       go_wp2
       have hR3:=Rf.box.set (.bool b6) (.slice x5 n5 y5) (.slice x6 n6 y6);have r0:=hR3.c0;have r1:=hR3.c1;have r2:=hR3.c2;refine bodyPost_ret (v:=.tuple #[.agg #[.bool b6,.slice x5 n5 y5,.slice x6 n6 y6],.int .i64 err]) (by simp [results,Tryz.results115,go_sem,r0,r1,r2]) rfl ?_;exact (rform_done ga (by omega) Ra.lt bm6 hform).gives HP.out
    · have x0:=X.k0
      have hcells:∀ {w':World},Below wb.heap.size wb w'→w'.cell? ⟨w.heap.size,0,none⟩=some (.bool bx):=fun hb=>(X.below hb).k0;have hne:w.heap.size+1≠w.heap.size:=by omega
      go_wp2
      go_region_held3 (fun w'=>w'.cell? ⟨w.heap.size,0,none⟩=some (.bool bx))
       (first | (go_keep;done) | exact tw | exact tw2 | exact (((Xf.box.apart (p:=⟨w.heap.size+1,0,none⟩) (by exact hne) _).apart (p:=⟨w.heap.size+1,1,none⟩) (by exact hne) _).apart (p:=⟨w.heap.size+1,2,none⟩) (by exact hne) _).c0)
       (first
        | (go_at_call 114;refine (one_any _).mono ?_;intro e we hm;obtain ⟨x2,y2,rfl,o3,bf⟩:=Makes.undrew hm;have tw:=hcells bf;have t2:Below wa.heap.size wa we:=t1.trans (bf.mono t1.size))
        | (go_at_call 121;refine (limited_any (b:=bx) (sg bx (wholeM true (val xn) (val xd))) 1 t2 (hqo.below bf (Nat.le_refl _)) (o3.mono t1.size) cq can_one (by simp) (by rw [one_val];exact gI_one_right _) (by rw [one_val,HM.out])).mono ?_;intro e wf hm6;obtain ⟨bm6,b6,x5,n5,y5,x6,n6,y6,err,rfl,hform⟩:=hm6.form;have tw2:=hcells2 bm6;have Xf:=X2 bm6;have Rf:=Ra.below bm6;have q0:=Rf.box.c0;have q1:=Rf.box.c1;have q2:=Rf.box.c2;have p0:=Rf.box.f0;have p1:=Rf.box.f1;have p2:=Rf.box.f2))
      all_goals
       go_wp2
       have hR3:=Rf.box.set (.bool b6) (.slice x5 n5 y5) (.slice x6 n6 y6);have r0:=hR3.c0;have r1:=hR3.c1;have r2:=hR3.c2;refine bodyPost_ret (v:=.tuple #[.agg #[.bool b6,.slice x5 n5 y5,.slice x6 n6 y6],.int .i64 err]) (by simp [results,Tryz.results115,go_sem,r0,r1,r2]) rfl ?_;exact (rform_done ga (by omega) Ra.lt bm6 hform).gives HP.out
theorem floor_rat (h1:Rd w.heap.size w (.slice a1 xn.length c1) xn) (h2:Rd w.heap.size w (.slice a2 xd.length c2) xd) :
    Calls Tryz.prog 49 #[.agg #[.bool bx,.slice a1 xn.length c1,.slice a2 xd.length c2]] w fun e w'=>Gives w (RightP bx xn xd) (sg bx (val xn)/val xd) 1 e w':=by
 have X:=nvar_new (b:=bx) h1 h2;have g:=below_alloc w (.cells #[.bool bx,.slice a1 xn.length c1,.slice a2 xd.length c2] 24);have R:=rvar_new (w.alloc (.cells #[.bool bx,.slice a1 xn.length c1,.slice a2 xd.length c2] 24));have ka:=below_alloc (w.alloc (.cells #[.bool bx,.slice a1 xn.length c1,.slice a2 xd.length c2] 24)) (.cells #[.bool false,.slice none 0 0,.slice none 0 0] 24);rw [World.size_alloc] at R;replace X:=X.below ka;replace g:=g.trans (ka.mono g.size);clear ka h1 h2;obtain ⟨x0,x1,x2⟩:=X.cells;go_enter Tryz.func49,Tryz.ntmps49
 go_wp2_with fail
 clear x0 x1 x2;generalize hA:(w.alloc (.cells #[.bool bx,.slice a1 xn.length c1,.slice a2 xd.length c2] 24)).alloc (.cells #[.bool false,.slice none 0 0,.slice none 0 0] 24)=v at *;clear hA;refine (whole_rat bx X.rn X.rd).mono ?_;rintro e wa ⟨ka,b6,x5,n5,y5,x6,n6,y6,err,rfl,ho⟩;have Ra:=R.below ka;have q0:=Ra.box.c0;have q1:=Ra.box.c1;have q2:=Ra.box.c2;have p0:=Ra.box.f0;have p1:=Ra.box.f1;have p2:=Ra.box.f2;go_wp2
 have hR3:=Ra.box.set (.bool b6) (.slice x5 n5 y5) (.slice x6 n6 y6);have r0:=hR3.c0;have r1:=hR3.c1;have r2:=hR3.c2;refine bodyPost_ret (v:=.tuple #[.agg #[.bool b6,.slice x5 n5 y5,.slice x6 n6 y6],.int .i64 err]) (by simp [results,Tryz.results49,go_sem,r0,r1,r2]) rfl ?_;have hd:=gives_done g (by omega) R.lt ka (Nat.le_refl _) ho;by_cases hP:RightP bx xn xd
 · rw [floor_whole bx _ _ (right_pos hP).2 (right_pos hP).1] at hd
   exact hd
 · obtain ⟨k1,c,z1,n,z2,z3,m,z4,er,he,hO⟩:=hd
   refine ⟨k1,c,z1,n,z2,z3,m,z4,er,he,?_⟩;rcases hO.out with h | ⟨h,_⟩ | ⟨h,_⟩
   · exact Or.inl h
   · exact absurd h hP
   · exact absurd h hP
end
theorem of_can (n:Int) (h0:0≤n) (h1:n<18446744073709551616):can (tr [n % 4294967296,n/4294967296])∧val (tr [n % 4294967296,n/4294967296])=n∧(tr [n % 4294967296,n/4294967296]).length≤2:=by
 refine ⟨tr_can (fun x hx=>by simp at hx;omega),?_,?_⟩
 · rw [val_tr];simp [val];omega
 · have:=tr_length_le [n % 4294967296,n/4294967296]
   simpa using this
theorem of_num (n:Int) (h0:0≤n) (h1:n<18446744073709551616) (w:World):Calls Tryz.prog 113 #[.int .u64 n] w fun e w'=>∃ ns,can ns∧Hid (val ns=n)∧ns.length≤2∧Makes w e w' ns:=by
 refine (of_any n h0 h1 w).mono ?_;intro e w' h;have hc:=of_can n h0 h1;exact ⟨_,hc.1,hc.2.1,hc.2.2,h⟩
/-- A whole number as a number. -/
def WholeIs (k:Int) (b:Bool) (ns ds:List Int):Prop:=b=decide (k<0)∧can ns∧val ns=(if k<0 then -k else k)∧ns.length≤2∧ds=[1]
theorem WholeIs.right {k:Int} {b:Bool} {ns ds:List Int} (h:WholeIs k b ns ds):RightP b ns ds:=by
 obtain ⟨rfl,cn,vn,ln,rfl⟩:=h;refine ⟨by omega,by simp,cn,can_one,?_,by simp,by rw [one_val];exact gI_one_right _⟩;rintro ⟨hb,hz⟩;rw [(can_zero cn).1 hz] at vn;rw [decide_eq_true_iff] at hb;rw [if_pos hb] at vn;omega
theorem WholeIs.sg {k:Int} {b:Bool} {ns ds:List Int} (h:WholeIs k b ns ds):sg b (val ns)=k∧val ds=1:=by
 obtain ⟨rfl,cn,vn,ln,rfl⟩:=h;refine ⟨?_,one_val⟩;rw [vn];by_cases hk:k<0
 · rw [decide_eq_true hk,if_pos hk];simp [Go.Proofs.YtilbfkabfgnhpaaGreat.sg]
 · rw [decide_eq_false hk,if_neg hk];rfl
/-- A whole number's answer. -/
def WholeNum (w:World) (k:Int) (e:Ending) (w':World):Prop:=
 Below w.heap.size w w'∧∃ b ns ds a1 c1 a2 c2,Hid (WholeIs k b ns ds)∧e=.returned (.agg #[.bool b,.slice a1 ns.length c1,.slice a2 ds.length c2])∧Own w.heap.size w' (.slice a1 ns.length c1) ns∧Own w.heap.size w' (.slice a2 ds.length c2) ds
theorem ofInt_any (k:Int) (h0:-9223372036854775808≤k) (h1:k<9223372036854775808) (w:World):Calls Tryz.prog 45 #[.int .i64 k] w fun e w'=>WholeNum w k e w':=by
 have R:=rvar_new w;have g:=below_alloc w (.cells #[.bool false,.slice none 0 0,.slice none 0 0] 24);go_enter Tryz.func45,Tryz.ntmps45;by_cases hk:k<0
 · have hkb:decide (k<0)=true:=decide_eq_true hk
   have hw:IntKind.u64.wrap (-IntKind.u64.wrap k) = -k:=by rw [IntKind.wrap_u64,IntKind.wrap_u64];omega
   go_wp2_with fail
   generalize hA:w.alloc (.cells #[.bool false,.slice none 0 0,.slice none 0 0] 24)=v at *;clear hA;refine (of_num (-k) (by omega) (by omega) _).mono ?_;rintro e wa ⟨ns,cn,vn,ln,x1,y1,rfl,o1,ka⟩
   go_wp2_with fail
   refine (one_any _).mono ?_;rintro e wb ⟨x2,y2,hb,o2,kb⟩;obtain ⟨ds,hds⟩:∃ ds:List Int,ds=[1]:=⟨_,rfl⟩;rw [← hds] at hb o2;subst hb;have HD:Hid (ds=[1]):=hds;clear hds;have t:Below v.heap.size v wb:=ka.trans (kb.mono ka.size);have Rb:=R.below t;have q0:=Rb.box.c0;have q1:=Rb.box.c1;have q2:=Rb.box.c2;have p0:=Rb.box.f0;have p1:=Rb.box.f1;have p2:=Rb.box.f2;go_wp2
   have hR3:=Rb.box.set (.bool true) (.slice x1 ns.length y1) (.slice x2 ds.length y2);have r0:=hR3.c0;have r1:=hR3.c1;have r2:=hR3.c2;refine bodyPost_ret (v:=.agg #[.bool true,.slice x1 ns.length y1,.slice x2 ds.length y2]) (by simp [results,Tryz.results45,go_sem,r0,r1,r2]) rfl ?_;exact ⟨Below.set3 (g.trans (t.mono g.size)) (Nat.le_refl _) _ _ _,true,ns,ds,x1,y1,x2,y2,⟨hkb.symm,cn,by rw [vn.out,if_pos hk],ln,HD.out⟩,rfl,(Own.set3 (o1.below kb (Nat.le_refl _)) R.lt _ _ _).mono g.size,(Own.set3 (o2.mono ka.size) R.lt _ _ _).mono g.size⟩
 · have hkb:decide (k<0)=false:=decide_eq_false hk
   go_wp2_with fail
   generalize hA:w.alloc (.cells #[.bool false,.slice none 0 0,.slice none 0 0] 24)=v at *;clear hA;refine (of_num k (by omega) (by omega) _).mono ?_;rintro e wa ⟨ns,cn,vn,ln,x1,y1,rfl,o1,ka⟩
   go_wp2_with fail
   refine (one_any _).mono ?_;rintro e wb ⟨x2,y2,hb,o2,kb⟩;obtain ⟨ds,hds⟩:∃ ds:List Int,ds=[1]:=⟨_,rfl⟩;rw [← hds] at hb o2;subst hb;have HD:Hid (ds=[1]):=hds;clear hds;have t:Below v.heap.size v wb:=ka.trans (kb.mono ka.size);have Rb:=R.below t;have q0:=Rb.box.c0;have q1:=Rb.box.c1;have q2:=Rb.box.c2;have p0:=Rb.box.f0;have p1:=Rb.box.f1;have p2:=Rb.box.f2;go_wp2
   have hR3:=Rb.box.set (.bool false) (.slice x1 ns.length y1) (.slice x2 ds.length y2);have r0:=hR3.c0;have r1:=hR3.c1;have r2:=hR3.c2;refine bodyPost_ret (v:=.agg #[.bool false,.slice x1 ns.length y1,.slice x2 ds.length y2]) (by simp [results,Tryz.results45,go_sem,r0,r1,r2]) rfl ?_;exact ⟨Below.set3 (g.trans (t.mono g.size)) (Nat.le_refl _) _ _ _,false,ns,ds,x1,y1,x2,y2,⟨hkb.symm,cn,by rw [vn.out,if_neg (by omega)],ln,HD.out⟩,rfl,(Own.set3 (o1.below kb (Nat.le_refl _)) R.lt _ _ _).mono g.size,(Own.set3 (o2.mono ka.size) R.lt _ _ _).mono g.size⟩
theorem pow_huge (A:Int) (N:Nat) (hA:2≤A) (hN:1024≤N):pw 32≤A ^ N:=by
 rw [pw_p2];have h1:p2 (32*32)≤p2 N:=p2_mono hN;have h2:(2:Int) ^ N≤A ^ N:=(pow_le_pow (by omega) hA N).1;unfold p2 at *;omega
theorem bits_small {A:Int} {b:Nat} (h:isBits A b) (hb:b<2):A=0∨A=1:=by
 rcases h with ⟨rfl,_⟩ | ⟨h1,h2,h3⟩
 · exact Or.inl rfl
 · obtain rfl:b=1:=by omega
   have e1:p2 (1 - 1)=1:=by decide
   have e2:p2 1=2:=by decide
   omega
theorem bits_great {A:Int} {b:Nat} (h:isBits A b) (hb:¬ b<2):2≤A:=by
 rcases h with ⟨rfl,h⟩ | ⟨h1,h2,h3⟩
 · omega
 · have:=p2_mono (j:=1) (k:=b - 1) (by omega)
   have e2:p2 1=2:=by decide
   omega
theorem pow_unit {A:Int} (h:A=0∨A=1) (N:Nat) (hN:0<N):A ^ N=A:=by
 obtain ⟨k,rfl⟩:∃ k,N=k+1:=⟨N - 1,by omega⟩;rcases h with rfl | rfl
 · rw [Int.pow_succ,Int.mul_zero]
 · exact one_pow' _
theorem one_lt_pw:(1:Int)<pw 32:=by
 have:=pw_mono (j:=1) (k:=32) (by omega);have e:pw 1=4294967296:=by decide
 omega
/-- What rat.powerOf answers. -/
def PowGives (w:World) (A:Int) (N:Nat) (e:Ending) (w':World):Prop:=
 Below w.heap.size w w'∧((pw 32≤A ^ N∧e=.returned (.tuple #[.slice none 0 0,.bool false]))∨(A ^ N<pw 32∧∃ zs a c,can zs∧val zs=A ^ N∧e=.returned (.tuple #[.slice a zs.length c,.bool true])∧Own w.heap.size w' (.slice a zs.length c) zs))
theorem powerOf_any {B:Nat} {w:World} {a1 a2:Option Addr} {c1 c2:Nat} {xs ys:List Int} (ha:Rd B w (.slice a1 xs.length c1) xs) (hn:Rd B w (.slice a2 ys.length c2) ys) (hB:B≤w.heap.size) (cx:can xs) (lx:xs.length≤32) (ly:ys.length≤32) (hy:0<val ys) :
    Calls Tryz.prog 149 #[.slice a1 xs.length c1,.slice a2 ys.length c2] w fun e w'=>PowGives w (val xs) (val ys).toNat e w':=by
 have HT:Hid (tr xs=xs):=can_inj (tr_can ha.lim) cx (val_tr xs);go_enter Tryz.func149,Tryz.ntmps149
 go_wp2_with fail
 refine (bits_any ha (by omega)).mono ?_;rintro e w' ⟨b,rfl,hb,hbl,rfl⟩;by_cases h2:b<2
 · have HE:Hid (val xs ^ (val ys).toNat=val xs∧val xs<pw 32):=by
    have h3:=bits_small hb h2;have h4:=one_lt_pw;exact ⟨pow_unit h3 _ (by omega),by omega⟩
   clear hb
   go_wp2_with fail
   refine (trim_rd ha (by omega)).mono ?_;intro e wa hm;rw [HT.out] at hm;obtain ⟨a3,c3,rfl,o3,ka⟩:=hm;go_wp2
   go_ret2
   exact ⟨ka,Or.inr ⟨by rw [HE.out.1];exact HE.out.2,xs,a3,c3,cx,HE.out.1.symm,rfl,o3⟩⟩
 · have HA:Hid (2≤val xs):=bits_great hb h2
   clear hb
   go_wp2_with fail
   refine (small_any hn (by omega)).mono ?_;rintro e w' ⟨rfl,rfl⟩;by_cases hs:val ys<9223372036854775808
   · rw [smallV_lt hs]
     obtain ⟨n,en⟩:=Int.eq_ofNat_of_zero_le (Int.le_of_lt hy);have HN:Hid ((val ys).toNat=n):=by unfold Hid;rw [en];exact Int.toNat_natCast n
     have hn9:n<9223372036854775808:=by omega
     rw [en];clear hs hy
     go_wp2_with fail
     refine (power_any n 32 ha hB (by omega) hn9 (by omega)).mono ?_;rintro e wa ⟨ka,h3,h4⟩;have HP:Hid ((pw 32≤val xs ^ n→e=.returned (.tuple #[.slice none 0 0,.bool false]))∧(val xs ^ n<pw 32→∃ zs a c,can zs∧val zs=val xs ^ n∧e=.returned (.tuple #[.slice a zs.length c,.bool true])∧Own w.heap.size wa (.slice a zs.length c) zs)):=⟨h3,h4⟩;clear h3 h4;by_cases hf:val xs ^ n<pw 32
     · obtain ⟨zs,a3,c3,cz,vz,rfl,o3⟩:=HP.out.2 hf
       have HF:Hid (val xs ^ n<pw 32∧val zs=val xs ^ n):=⟨hf,vz⟩;clear HP hf vz;go_wp2
       go_ret2
       unfold PowGives;rw [en,Int.toNat_natCast];exact ⟨ka,Or.inr ⟨HF.out.1,zs,a3,c3,cz,HF.out.2,rfl,o3⟩⟩
     · have hf':pw 32≤val xs ^ n:=by omega
       obtain rfl:=HP.out.1 hf';have HF:Hid (pw 32≤val xs ^ n):=hf';clear HP hf hf';go_wp2
       go_ret2
       unfold PowGives;rw [en,Int.toNat_natCast];exact ⟨ka,Or.inl ⟨HF.out,rfl⟩⟩
   · rw [smallV_ge (by omega)]
     have HF:Hid (pw 32≤val xs ^ (val ys).toNat):=pow_huge _ _ HA.out (by omega);clear hs;go_wp2
     go_ret2
     exact ⟨Below.refl _ _,Or.inl ⟨HF.out,rfl⟩⟩
end
section
/-- How many sets of k things n things have. -/
def binom:Nat→Nat→Nat
 | _,0=>1
 | 0,_+1=>0
 | n+1,k+1=>binom n k+binom n (k+1)
theorem binom_zero (n:Nat):binom n 0=1:=by cases n <;> rfl
theorem binom_succ (n k:Nat):binom (n+1) (k+1)=binom n k+binom n (k+1):=rfl
theorem binom_none (k:Nat):binom 0 (k+1)=0:=rfl
theorem binom_lt {n:Nat}:∀ {k:Nat},n<k→binom n k=0:=by
 induction n with
 | zero=>intro k h;obtain ⟨j,rfl⟩:∃ j,k=j+1:=⟨k - 1,by omega⟩;rfl
 | succ n ih=>
  intro k h;obtain ⟨j,rfl⟩:∃ j,k=j+1:=⟨k - 1,by omega⟩;rw [binom_succ,ih (by omega),ih (by omega)]
theorem binom_absorb (n:Nat):∀ k,(k+1)*binom (n+1) (k+1)=(n+1)*binom n k:=by
 induction n with
 | zero=>
  intro k
  cases k with
  | zero=>rfl
  | succ k=>rw [binom_succ,binom_none,binom_none];simp
 | succ n ih=>
  intro k
  cases k with
  | zero=>
   have h:=ih 0;rw [binom_zero] at h;rw [binom_succ,binom_zero];omega
  | succ j=>
   have h1:=ih j;have h2:=ih (j+1);rw [binom_succ (n+1) (j+1),Nat.mul_add,h2,Nat.add_mul (j+1) 1,h1];have e:(n+1)*binom n j+(n+1)*binom n (j+1)=(n+1)*binom (n+1) (j+1):=by rw [binom_succ n j,Nat.mul_add]
   rw [Nat.add_mul (n+1) 1];omega
theorem binom_sym (n:Nat):∀ a b,a+b=n→binom n a=binom n b:=by
 induction n with
 | zero => 
  intro a b h;have h1:a=0∧b=0:=by omega
  rw [h1.1,h1.2]
 | succ n ih=>
  intro a b h
  cases a with
  | zero=>
   obtain rfl:b=n+1:=by omega
   rw [binom_zero,binom_succ,ih n 0 (by omega),binom_zero,binom_lt (by omega)]
  | succ a=>
   cases b with
   | zero=>
    obtain rfl:a=n:=by omega
    rw [binom_zero,binom_succ,ih a 0 (by omega),binom_zero,binom_lt (by omega)]
   | succ b=>
    rw [binom_succ,binom_succ,ih a (b+1) (by omega),ih (a+1) b (by omega),Nat.add_comm]
/-- From the sets of i things of m + i to those of one more of one more. -/
theorem binom_step (m i:Nat):binom (m+i) i*(m+(i+1))=binom (m+(i+1)) (i+1)*(i+1):=by
 have h:=binom_absorb (m+i) i;rw [Nat.mul_comm (binom (m+(i+1)) (i+1)),show m+(i+1)=m+i+1 by omega,h,Nat.mul_comm]
theorem binom_grow (m i:Nat):binom (m+i) i≤binom (m+(i+1)) (i+1):=by
 rw [show m+(i+1)=m+i+1 by omega,binom_succ];omega
end
section
open Go.RowKit
theorem binom_mono (M:Nat) {j F:Nat} (h:j≤F):binom (M+j) j≤binom (M+F) F:=by
 induction F with
 | zero=>
  have hj:j=0:=by omega
  rw [hj];exact Nat.le_refl _
 | succ F ih=>
  by_cases hj:j=F+1
  · subst hj;exact Nat.le_refl _
  · exact Nat.le_trans (ih (by omega)) (binom_grow M F)
/-- Has a number at most 32 limbs, or more? (Said by name: the walk reckons a bare power.) -/
structure Fits (N:Nat):Prop where
 is:(N:Int)<pw 32
structure Great (N:Nat):Prop where
 is:pw 32≤(N:Int)
/-- What rat.choose answers. -/
def Chooses (w:World) (N:Nat) (e:Ending) (w':World):Prop:=
 Below w.heap.size w w'∧((pw 32≤(N:Int)∧e=errOf 8)∨((N:Int)<pw 32∧∃ zs ds a1 c1 a2 c2,can zs∧val zs=(N:Int)∧Hid (ds=[(1:Int)])∧e=.returned (.tuple #[.agg #[.bool false,.slice a1 zs.length c1,.slice a2 ds.length c2],.int .i64 0])∧Own w.heap.size w' (.slice a1 zs.length c1) zs∧Own w.heap.size w' (.slice a2 ds.length c2) ds))
theorem one_num (w:World):Calls Tryz.prog 114 #[] w fun e w'=>∃ ds a c,Hid (ds=[(1:Int)])∧e=.returned (.slice a ds.length c)∧Own w.heap.size w' (.slice a ds.length c) ds∧Below w.heap.size w w':=
 (one_any w).mono (fun e w' ⟨a,c,he,ho,hb⟩=>⟨[1],a,c,rfl,he,ho,hb⟩)
theorem choose_any {w:World} {a1 a2:Option Addr} {c1 c2:Nat} {fs ms:List Int} (h1:Rd w.heap.size w (.slice a1 fs.length c1) fs) (h2:Rd w.heap.size w (.slice a2 ms.length c2) ms) (l1:fs.length≤32) (l2:ms.length≤32) (F M:Nat) (hF:Hid (val fs=(F:Int))) (hM:Hid (val ms=(M:Int))) :
    Calls Tryz.prog 151 #[.slice a1 fs.length c1,.slice a2 ms.length c2] w fun e w'=>Chooses w (binom (M+F) F) e w':=by
 have hFb:Fits F:=by
  constructor;have h5:=(val_bound h1.lim).2;have h6:=pw_mono (j:=fs.length) (k:=32) l1;rw [hF.out] at h5;omega
 have R:=rvar_new w;have g:=below_alloc w (.cells #[.bool false,.slice none 0 0,.slice none 0 0] 24);go_enter Tryz.func151,Tryz.ntmps151
 go_wp2_with fail
 generalize hA:w.alloc (.cells #[.bool false,.slice none 0 0,.slice none 0 0] 24)=v at *;clear hA;refine (one_num _).mono ?_;rintro e wa ⟨s0,p1,q1,HS0,rfl,os0,ka⟩
 go_wp2_with fail
 refine (one_num _).mono ?_;rintro e wb ⟨i0,p2,q2,HI0,rfl,oi0,kb⟩;have tb:Below v.heap.size v wb:=ka.trans (kb.mono ka.size);have os1:Own v.heap.size wb (.slice p1 s0.length q1) s0:=os0.below kb (Nat.le_refl _);have oi1:Own v.heap.size wb (.slice p2 i0.length q2) i0:=oi0.mono ka.size;have c0:Hid (can s0∧can i0∧s0.length≤32∧i0.length≤33∧val s0=1∧val i0=1):=by
  unfold Hid;rw [HS0.out,HI0.out];exact ⟨can_one,can_one,by simp,by simp,one_val,one_val⟩
 go_wp2
 go_loopg [6,7] F (fun gk sv iv wr=>∃ (j:Nat) (ss is:List Int) (a:Option Addr) (c:Nat) (a':Option Addr) (c':Nat),Hid (gk=F - j)∧sv=.slice a ss.length c∧iv=.slice a' is.length c'∧j≤F∧can ss∧can is∧Hid (val is=(j:Int)+1∧val ss=(binom (M+j) j:Int))∧ss.length≤32∧is.length≤33∧Own v.heap.size wr (.slice a ss.length c) ss∧Own v.heap.size wr (.slice a' is.length c') is∧Below v.heap.size v wr)
 case atStart=>exact ⟨0,s0,i0,p1,q1,p2,q2,rfl,rfl,rfl,Nat.zero_le _,c0.out.1,c0.out.2.1,⟨by rw [c0.out.2.2.2.2.2];rfl,by rw [c0.out.2.2.2.2.1,binom_zero];rfl⟩,c0.out.2.2.1,c0.out.2.2.2.1,os1,oi1,tb⟩
 case round=>
  obtain ⟨j,ss,is,a,c,a',c',hgk,rfl,rfl,hj,cs,ci,HV,ls,li,os,oi,tr⟩:=hrel;have gr:Below w.heap.size w wr:=g.trans (tr.mono g.size)
  go_wp2_with fail
  refine (compare_bl oi.rd (h1.below gr)).mono ?_;rintro e w1 ⟨rfl,k1⟩;have t1:Below v.heap.size v w1:=tr.trans (k1.mono tr.size);have g1:Below w.heap.size w w1:=g.trans (t1.mono g.size);rw [HV.out.1,hF.out];by_cases hlt:j<F
  · have hc:cmpI ((j:Int)+1) (F:Int)≤0:=by unfold cmpI;split;omega;split <;> omega
    have os1:=os.below k1 (Nat.le_refl _);have oi1:=oi.below k1 (Nat.le_refl _)
    go_wp2_with fail
    refine (sum2 (h2.below g1) oi1.rd g1.size (Nat.le_refl _) (by omega) (by omega)).mono ?_;rintro e w2 ⟨zs,cz,vz,lz,p3,q3,rfl,oz,k2⟩;have t2:Below v.heap.size v w2:=t1.trans (k2.mono t1.size);have HZ:Hid (val zs=(M:Int)+((j:Int)+1)):=by unfold Hid;rw [vz,hM.out,HV.out.1]
    clear vz;have os2:=os1.below k2 (Nat.le_refl _);have oi2:=oi1.below k2 (Nat.le_refl _)
    go_wp2_with fail
    refine (prod2 os2.rd oz.rd (Nat.le_refl _) (Nat.le_refl _) (by omega) (by omega)).mono ?_;rintro e w3 ⟨us,cu,vu,lu,p4,q4,rfl,ou,k3⟩;have t3:Below v.heap.size v w3:=t2.trans (k3.mono t2.size);have HU:Hid (val us=(binom (M+(j+1)) (j+1):Int)*((j:Int)+1)):=by
     unfold Hid;rw [vu,HV.out.2,HZ.out];have h5:=binom_step M j;have h6:((binom (M+j) j*(M+(j+1)):Nat):Int)=((binom (M+(j+1)) (j+1)*(j+1):Nat):Int):=by rw [h5]
     rw [Int.natCast_mul,Int.natCast_mul,Int.natCast_add,Int.natCast_add] at h6;exact h6
    clear vu;have oi3:=oi2.below k3 (Nat.le_refl _)
    go_wp2_with fail
    refine (divMod_any ou.rd (Nat.le_refl _) oi3.rd (Nat.le_refl _) (by rw [HV.out.1];omega) (by omega) (by omega)).mono ?_;rintro e w4 ⟨qs,rs,p5,q5,p6,q6,rfl,oq,or,cq,cr,hv,hl,lq,lr,k4⟩;have t4:Below v.heap.size v w4:=t3.trans (k4.mono t3.size);have HQ:Hid (val qs=(binom (M+(j+1)) (j+1):Int)):=by
     unfold Hid;have h5:=div_unique hv (val_bound cr.1).1 hl;have h6:=div_unique (n:=val us) (d:=val is) (q:=(binom (M+(j+1)) (j+1):Int)) (r:=0) (by rw [HU.out,HV.out.1,Int.add_zero]) (by omega) (by rw [HV.out.1];omega);rw [h5.1,h6.1]
    clear hv hl;have oq4:Own v.heap.size w4 (.slice p5 qs.length q5) qs:=oq.mono t3.size;have oi4:=oi3.below k4 (Nat.le_refl _);have g4:Below w.heap.size w w4:=g.trans (t4.mono g.size);clear hc cz lz cu lu lq lr cr or oz ou os1 os2 oi1 oi2 oi3 os0 oi0;by_cases hbig:32<qs.length
    · have HB:Great (binom (M+F) F):=by
       constructor;have h5:¬ val qs<pw 32:=fun h=>by have:=(can_len_pw cq 32).2 h;omega
       have h6:=binom_mono M (show j+1≤F by omega);rw [HQ.out] at h5;omega
      have R4:=R.below t4;have q0:=R4.box.c0;have q1':=R4.box.c1;have q2':=R4.box.c2;have p0:=R4.box.f0;have p1':=R4.box.f1;have p2':=R4.box.f2;go_wp2
      have hR3:=R4.box.set (.bool false) (.slice none 0 0) (.slice none 0 0);have r0:=hR3.c0;have r1:=hR3.c1;have r2:=hR3.c2
      try simp only [Exit.inBlock,Exit.then]
      refine bodyPost_ret (v:=.tuple #[.agg #[.bool false,.slice none 0 0,.slice none 0 0],.int .i64 8]) ?_ rfl ?_
      · simp [results,Tryz.results151,go_sem,r0,r1,r2]
      exact ⟨Below.set3 g4 (Nat.le_refl _) _ _ _,Or.inl ⟨HB.is,rfl⟩⟩
    · go_wp2_with fail
      refine (one_num _).mono ?_;rintro e w5 ⟨ds,p7,q7,HD,rfl,od,k5⟩;have t5:Below v.heap.size v w5:=t4.trans (k5.mono t4.size);have oi5:=oi4.below k5 (Nat.le_refl _);have oq5:=oq4.below k5 (Nat.le_refl _);have ld:ds.length≤1:=by rw [HD.out];exact Nat.le_refl _
      go_wp2_with fail
      refine (sum2 oi5.rd od.rd (Nat.le_refl _) (Nat.le_refl _) (by omega) (by omega)).mono ?_;rintro e w6 ⟨ts,ct,vt,lt',p8,q8,rfl,ot,k6⟩;have t6:Below v.heap.size v w6:=t5.trans (k6.mono t5.size);have HT:Hid (val ts=((j+1:Nat):Int)+1):=by unfold Hid;rw [vt,HV.out.1,HD.out,one_val];omega
      clear vt;have lts:ts.length≤33:=by
       have h5:(F:Int)<pw 32:=hFb.is;have h6:=pw_pos 32;refine (can_len_pw ct (32+1)).2 ?_;rw [HT.out,pw_succ];generalize pw 32=Z at *;omega
      have oq6:=oq5.below k6 (Nat.le_refl _);have ot6:Own v.heap.size w6 (.slice p8 ts.length q8) ts:=ot.mono t5.size;go_wp2
      go_roundg (F - (j+1))
      case rel=>exact ⟨j+1,qs,ts,p5,q5,p8,q8,rfl,rfl,rfl,by omega,cq,ct,⟨HT.out,HQ.out⟩,by omega,lts,oq6,ot6,t6⟩
      case measure=>rw [hgk.out];omega
  · have hc:cmpI ((j:Int)+1) (F:Int)=1:=cmpI_gt (by omega)
    obtain rfl:j=F:=by omega
    have R1:=R.below t1;rw [hc];clear hc;have os1:=os.below k1 (Nat.le_refl _);have HN:Fits (binom (M+j) j):=by constructor;rw [← HV.out.2];exact (can_len_pw cs 32).1 ls
    go_wp2_with fail
    refine (one_num _).mono ?_;rintro e w2 ⟨ds,p7,q7,HD,rfl,od,k2⟩;have t2:Below v.heap.size v w2:=t1.trans (k2.mono t1.size);have ld:ds.length≤32:=by rw [HD.out];simp
    have os2:=os1.below k2 (Nat.le_refl _);have od2:Own v.heap.size w2 (.slice p7 ds.length q7) ds:=od.mono t1.size
    go_wp2_with fail
    refine (limited_ok false a p7 ss.length c ds.length q7 _ ls ld).mono ?_;rintro e w3 ⟨rfl,k3⟩;have t3:Below v.heap.size v w3:=t2.trans (k3.mono t2.size);have hbb:(false && decide (0<ss.length))=false:=rfl;rw [hbb];clear hbb;have os3:=os2.below k3 (Nat.le_refl _);have od3:=od2.below k3 (Nat.le_refl _);have R3:=R.below t3;have q0:=R3.box.c0;have q1':=R3.box.c1;have q2':=R3.box.c2;have p0:=R3.box.f0;have p1':=R3.box.f1;have p2':=R3.box.f2;go_wp2
    have hR3:=R3.box.set (.bool false) (.slice a ss.length c) (.slice p7 ds.length q7);have r0:=hR3.c0;have r1:=hR3.c1;have r2:=hR3.c2
    try simp only [Exit.inBlock,Exit.then]
    refine bodyPost_ret (v:=.tuple #[.agg #[.bool false,.slice a ss.length c,.slice p7 ds.length q7],.int .i64 0]) ?_ rfl ?_
    · simp [results,Tryz.results151,go_sem,r0,r1,r2]
    exact ⟨Below.set3 (g.trans (t3.mono g.size)) (Nat.le_refl _) _ _ _,Or.inr ⟨HN.is,ss,ds,a,c,p7,q7,cs,HV.out.2,HD,rfl,(Own.set3 os3 R.lt _ _ _).mono g.size,(Own.set3 od3 R.lt _ _ _).mono g.size⟩⟩
/-- Is a right number whole and not below 0? -/
def IsCount (b:Bool) (ds:List Int):Prop:=ds=[1]∧b=false
theorem isCount_any {w:World} {b:Bool} {a1 a2:Option Addr} {c1 c2:Nat} {ns ds:List Int} (h1:Rd w.heap.size w (.slice a1 ns.length c1) ns) (h2:Rd w.heap.size w (.slice a2 ds.length c2) ds) :
    Calls Tryz.prog 117 #[.agg #[.bool b,.slice a1 ns.length c1,.slice a2 ds.length c2]] w fun e w'=>TellsP (IsCount b ds) e∧Below w.heap.size w w':=by
 have X:=nvar_new (b:=b) h1 h2;have g:=below_alloc w (.cells #[.bool b,.slice a1 ns.length c1,.slice a2 ds.length c2] 24);obtain ⟨x0,x1,x2⟩:=X.cells;go_enter Tryz.func117,Tryz.ntmps117
 go_wp2_with fail
 generalize hA:w.alloc (.cells #[.bool b,.slice a1 ns.length c1,.slice a2 ds.length c2] 24)=v at *;clear hA;refine (isOne_any X.rd).mono ?_;rintro e w' ⟨rfl,rfl⟩;by_cases hone:ds=[1]
 · have HO:Hid (ds=[1]):=hone
   rw [decide_eq_true hone];clear hone
   cases b with
   | false=>
    go_wp2
    go_ret
    exact ⟨TellsP.yes ⟨HO.out,rfl⟩,g⟩
   | true=>
    go_wp2
    go_ret
    exact ⟨TellsP.no (fun h=>by cases h.2),g⟩
 · have HO:Hid (¬ ds=[1]):=hone
   rw [decide_eq_false hone];clear hone;go_wp2
   go_ret
   exact ⟨TellsP.no (fun h=>HO.out h.1),g⟩
section
variable {w:World} {a1 a2 a3 a4:Option Addr} {c1 c2 c3 c4:Nat} {xn xd yn yd:List Int}
theorem binomial_any (h1:Rd w.heap.size w (.slice a1 xn.length c1) xn) (h2:Rd w.heap.size w (.slice a2 xd.length c2) xd) (h3:Rd w.heap.size w (.slice a3 yn.length c3) yn) (h4:Rd w.heap.size w (.slice a4 yd.length c4) yd) (PX:Hid (RightP false xn xd∧xd=[1])) (PY:Hid (RightP false yn yd∧yd=[1])) (k n:Nat) (hk:Hid (val xn=(k:Int))) (hn:Hid (val yn=(n:Int))) :
    Calls Tryz.prog 96 #[.agg #[.bool false,.slice a1 xn.length c1,.slice a2 xd.length c2],.agg #[.bool false,.slice a3 yn.length c3,.slice a4 yd.length c4]] w fun e w'=>Chooses w (binom n k) e w':=by
 have I:=in2_new w (.bool false) (.slice a1 xn.length c1) (.slice a2 xd.length c2) (.bool false) (.slice a3 yn.length c3) (.slice a4 yd.length c4);have l1:=PX.out.1.1;have l3:=PY.out.1.1;go_enter Tryz.func96,Tryz.ntmps96
 go_wp2_with fail
 generalize hA:((((w.alloc (.cells #[.bool false,.slice a1 xn.length c1,.slice a2 xd.length c2] 24)).alloc (.cells #[.bool false,.slice a3 yn.length c3,.slice a4 yd.length c4] 24)).alloc (.cells #[.bool false,.slice none 0 0,.slice none 0 0] 24)).alloc (.cells #[.bool false,.slice a1 xn.length c1,.slice a2 xd.length c2,.bool false,.slice a3 yn.length c3,.slice a4 yd.length c4] 24))=v0 at *;clear hA;obtain ⟨hX,hY,hR,hT,g,s0⟩:=I;have X:NVar v0 w.heap.size false a1 xn c1 a2 xd c2:=⟨by omega,hX,(h1.below g).mono g.size,(h2.below g).mono g.size⟩;have Y:NVar v0 (w.heap.size+1) false a3 yn c3 a4 yd c4:=⟨by omega,hY,(h3.below g).mono g.size,(h4.below g).mono g.size⟩;have R:RVar v0 (w.heap.size+1+1):=⟨by omega,hR⟩;have s1:w.heap.size≤w.heap.size+1+1:=by omega
 clear hX hY hR h1 h2 h3 h4 s0;refine (allRight2 hT X.rn X.rd Y.rn Y.rd (Nat.le_refl _)).mono ?_;rintro e w0 ⟨⟨r,rfl,hr⟩,k0⟩;replace X:=X.below k0;replace Y:=Y.below k0;replace R:=R.below k0;replace g:=g.trans (k0.mono g.size);obtain rfl:r=true:=hr.2 ⟨PX.out.1,PY.out.1⟩;clear hr hT k0;obtain ⟨X0,X1,X2⟩:=X.cells;obtain ⟨Y0,Y1,Y2⟩:=Y.cells
 go_wp2_with fail
 clear X0 X1 X2 Y0 Y1 Y2;refine (isCount_any X.rn X.rd).mono ?_;rintro e w1 ⟨⟨r,rfl,hr⟩,k1⟩;replace X:=X.below k1;replace Y:=Y.below k1;replace R:=R.below k1;replace g:=g.trans (k1.mono g.size);obtain rfl:r=true:=hr.2 ⟨PX.out.2,rfl⟩;clear hr k1;obtain ⟨X0,X1,X2⟩:=X.cells;obtain ⟨Y0,Y1,Y2⟩:=Y.cells
 go_wp2_with fail
 clear X0 X1 X2 Y0 Y1 Y2;refine (isCount_any Y.rn Y.rd).mono ?_;rintro e w2 ⟨⟨r,rfl,hr⟩,k2⟩;replace X:=X.below k2;replace Y:=Y.below k2;replace R:=R.below k2;replace g:=g.trans (k2.mono g.size);obtain rfl:r=true:=hr.2 ⟨PY.out.2,rfl⟩;clear hr k2;obtain ⟨X0,X1,X2⟩:=X.cells;obtain ⟨Y0,Y1,Y2⟩:=Y.cells
 go_wp2_with fail
 clear X0 X1 X2 Y0 Y1 Y2;refine (minus_any Y.rn (Nat.le_refl _) X.rn (Nat.le_refl _) (by omega)).mono ?_;rintro e w3 ⟨⟨k3,hmin⟩,hmin0⟩;replace X:=X.below k3;replace Y:=Y.below k3;replace R:=R.below k3;replace g:=g.trans (k3.mono g.size);by_cases hlt:n<k
 · rw [if_pos (by rw [hk.out,hn.out];omega)] at hmin
   subst hmin;clear hmin0;have HB:Hid (binom n k=0):=binom_lt hlt;have gk:=g;have Rk:=R
   go_wp2_with fail
   refine (ofInt_any 0 (by omega) (by omega) _).mono ?_;rintro e w4 ⟨k4,b1,ns,ds,x1,y1,x2,y2,HW,rfl,on,od⟩;replace X:=X.below k4;replace Y:=Y.below k4;replace R:=R.below k4;replace g:=g.trans (k4.mono g.size);obtain rfl:b1=false:=HW.out.1;have HZ:Hid (can ns∧val ns=0∧ds=[1]):=⟨HW.out.2.1,HW.out.2.2.1,HW.out.2.2.2.2⟩;have HF:Fits 0:=⟨by have:=pw_pos 32;exact this⟩;have q0:=R.box.c0;have q1:=R.box.c1;have q2:=R.box.c2;have p0:=R.box.f0;have p1:=R.box.f1;have p2:=R.box.f2;go_wp2
   have hR3:=R.box.set (.bool false) (.slice x1 ns.length y1) (.slice x2 ds.length y2);have r0:=hR3.c0;have r1:=hR3.c1;have r2:=hR3.c2;refine bodyPost_ret (v:=.tuple #[.agg #[.bool false,.slice x1 ns.length y1,.slice x2 ds.length y2],.int .i64 0]) (by simp [results,Tryz.results96,go_sem,r0,r1,r2]) rfl ?_;rw [HB.out];exact ⟨Below.set3 g s1 _ _ _,Or.inr ⟨HF.is,ns,ds,x1,y1,x2,y2,HZ.out.1,HZ.out.2.1,HZ.out.2.2,rfl,(Own.set3 on Rk.lt _ _ _).mono gk.size,(Own.set3 od Rk.lt _ _ _).mono gk.size⟩⟩
 · clear hmin
   obtain ⟨zs,z1,z2,lz,cz,vz,rfl,oz⟩:=hmin0 (by rw [hk.out,hn.out];omega);clear hmin0;have HZ:Hid (val zs=((n - k:Nat):Int)):=by unfold Hid;rw [vz,hk.out,hn.out];omega
   clear vz;obtain ⟨X0,X1,X2⟩:=X.cells
   go_wp2_with fail
   clear X0 X1 X2;refine (compare_bl X.rn oz.rd).mono ?_;rintro e w4 ⟨rfl,k4⟩;have oz4:=oz.below k4 (Nat.le_refl _);rw [hk.out,HZ.out];replace X:=X.below k4;replace Y:=Y.below k4;replace R:=R.below k4;replace g:=g.trans (k4.mono g.size);have gk:=g;have Rk:=R;by_cases hlt2:k<n - k
   · have hc:cmpI ((k:Nat):Int) ((n - k:Nat):Int) = -1:=cmpI_lt (by omega)
     rw [hc];clear hc;have HE:Hid (binom (n - k+k) k=binom n k):=by unfold Hid;congr 1;omega
     obtain ⟨X0,X1,X2⟩:=X.cells
     go_wp2_with fail
     clear X0 X1 X2;refine (choose_any X.rn oz4.rd (by omega) (by omega) k (n - k) hk HZ).mono ?_;intro e w5 hch;rw [HE.out] at hch;obtain ⟨k5,⟨hb,he⟩ | ⟨hb,us,ds,u1,u2,u3,u4,cu,vu,HD,rfl,ou,od⟩⟩:=hch
     · replace X:=X.below k5
       replace Y:=Y.below k5;replace R:=R.below k5;replace g:=g.trans (k5.mono g.size);unfold errOf at he;subst he;have HG:Great (binom n k):=⟨hb⟩;clear hb;have q0:=R.box.c0;have q1:=R.box.c1;have q2:=R.box.c2;have p0:=R.box.f0;have p1:=R.box.f1;have p2:=R.box.f2;go_wp2
       have hR3:=R.box.set (.bool false) (.slice none 0 0) (.slice none 0 0);have r0:=hR3.c0;have r1:=hR3.c1;have r2:=hR3.c2;refine bodyPost_ret (v:=.tuple #[.agg #[.bool false,.slice none 0 0,.slice none 0 0],.int .i64 8]) (by simp [results,Tryz.results96,go_sem,r0,r1,r2]) rfl ?_;exact ⟨Below.set3 g s1 _ _ _,Or.inl ⟨HG.is,rfl⟩⟩
     · replace X:=X.below k5
       replace Y:=Y.below k5;replace R:=R.below k5;replace g:=g.trans (k5.mono g.size);have HG:Fits (binom n k):=⟨hb⟩;have HV:Hid (val us=(binom n k:Int)):=vu;clear hb vu;have q0:=R.box.c0;have q1:=R.box.c1;have q2:=R.box.c2;have p0:=R.box.f0;have p1:=R.box.f1;have p2:=R.box.f2;go_wp2
       have hR3:=R.box.set (.bool false) (.slice u1 us.length u2) (.slice u3 ds.length u4);have r0:=hR3.c0;have r1:=hR3.c1;have r2:=hR3.c2;refine bodyPost_ret (v:=.tuple #[.agg #[.bool false,.slice u1 us.length u2,.slice u3 ds.length u4],.int .i64 0]) (by simp [results,Tryz.results96,go_sem,r0,r1,r2]) rfl ?_;exact ⟨Below.set3 g s1 _ _ _,Or.inr ⟨HG.is,us,ds,u1,u2,u3,u4,cu,HV.out,HD,rfl,(Own.set3 ou Rk.lt _ _ _).mono gk.size,(Own.set3 od Rk.lt _ _ _).mono gk.size⟩⟩
   · have hc:cmpI ((k:Nat):Int) ((n - k:Nat):Int)=0∨cmpI ((k:Nat):Int) ((n - k:Nat):Int)=1:=by
      unfold cmpI
      split
      · omega
      · split
        · exact Or.inl rfl
        · exact Or.inr rfl
     have hc2:¬ cmpI ((k:Nat):Int) ((n - k:Nat):Int)<0:=by omega
     clear hc;generalize cmpI ((k:Nat):Int) ((n - k:Nat):Int)=cc at *;have HE:Hid (binom (k+(n - k)) (n - k)=binom n k):=by unfold Hid;rw [show k+(n - k)=n by omega];exact binom_sym n (n - k) k (by omega)
     obtain ⟨X0,X1,X2⟩:=X.cells
     go_wp2_with fail
     clear X0 X1 X2;refine (choose_any oz4.rd X.rn (by omega) (by omega) (n - k) k HZ hk).mono ?_;intro e w5 hch;rw [HE.out] at hch;obtain ⟨k5,⟨hb,he⟩ | ⟨hb,us,ds,u1,u2,u3,u4,cu,vu,HD,rfl,ou,od⟩⟩:=hch
     · replace X:=X.below k5
       replace Y:=Y.below k5;replace R:=R.below k5;replace g:=g.trans (k5.mono g.size);unfold errOf at he;subst he;have HG:Great (binom n k):=⟨hb⟩;clear hb;have q0:=R.box.c0;have q1:=R.box.c1;have q2:=R.box.c2;have p0:=R.box.f0;have p1:=R.box.f1;have p2:=R.box.f2;go_wp2
       have hR3:=R.box.set (.bool false) (.slice none 0 0) (.slice none 0 0);have r0:=hR3.c0;have r1:=hR3.c1;have r2:=hR3.c2;refine bodyPost_ret (v:=.tuple #[.agg #[.bool false,.slice none 0 0,.slice none 0 0],.int .i64 8]) (by simp [results,Tryz.results96,go_sem,r0,r1,r2]) rfl ?_;exact ⟨Below.set3 g s1 _ _ _,Or.inl ⟨HG.is,rfl⟩⟩
     · replace X:=X.below k5
       replace Y:=Y.below k5;replace R:=R.below k5;replace g:=g.trans (k5.mono g.size);have HG:Fits (binom n k):=⟨hb⟩;have HV:Hid (val us=(binom n k:Int)):=vu;clear hb vu;have q0:=R.box.c0;have q1:=R.box.c1;have q2:=R.box.c2;have p0:=R.box.f0;have p1:=R.box.f1;have p2:=R.box.f2;go_wp2
       have hR3:=R.box.set (.bool false) (.slice u1 us.length u2) (.slice u3 ds.length u4);have r0:=hR3.c0;have r1:=hR3.c1;have r2:=hR3.c2;refine bodyPost_ret (v:=.tuple #[.agg #[.bool false,.slice u1 us.length u2,.slice u3 ds.length u4],.int .i64 0]) (by simp [results,Tryz.results96,go_sem,r0,r1,r2]) rfl ?_;exact ⟨Below.set3 g s1 _ _ _,Or.inr ⟨HG.is,us,ds,u1,u2,u3,u4,cu,HV.out,HD,rfl,(Own.set3 ou Rk.lt _ _ _).mono gk.size,(Own.set3 od Rk.lt _ _ _).mono gk.size⟩⟩
end
/-- A number that is answered, in memory of its own. -/
def NumAns (w:World) (b:Bool) (ns ds:List Int) (e:Ending) (w':World):Prop:=
 Below w.heap.size w w'∧∃ x1 y1 x2 y2,e=.returned (.agg #[.bool b,.slice x1 ns.length y1,.slice x2 ds.length y2])∧Own w.heap.size w' (.slice x1 ns.length y1) ns∧Own w.heap.size w' (.slice x2 ds.length y2) ds
section
variable {w:World} {b:Bool} {a1 a2:Option Addr} {c1 c2:Nat} {ns ds:List Int}
theorem in1_new (w:World) (h1:Rd w.heap.size w (.slice a1 ns.length c1) ns) (h2:Rd w.heap.size w (.slice a2 ds.length c2) ds) :
    NVar ((w.alloc (.cells #[.bool b,.slice a1 ns.length c1,.slice a2 ds.length c2] 24)).alloc (.cells #[.bool false,.slice none 0 0,.slice none 0 0] 24)) w.heap.size b a1 ns c1 a2 ds c2∧RVar ((w.alloc (.cells #[.bool b,.slice a1 ns.length c1,.slice a2 ds.length c2] 24)).alloc (.cells #[.bool false,.slice none 0 0,.slice none 0 0] 24)) (w.heap.size+1)∧Below w.heap.size w ((w.alloc (.cells #[.bool b,.slice a1 ns.length c1,.slice a2 ds.length c2] 24)).alloc (.cells #[.bool false,.slice none 0 0,.slice none 0 0] 24)):=by
 have X:=nvar_new (b:=b) h1 h2;have R:=rvar_new (w.alloc (.cells #[.bool b,.slice a1 ns.length c1,.slice a2 ds.length c2] 24));have ka:=below_alloc (w.alloc (.cells #[.bool b,.slice a1 ns.length c1,.slice a2 ds.length c2] 24)) (.cells #[.bool false,.slice none 0 0,.slice none 0 0] 24);rw [World.size_alloc] at R;exact ⟨X.below ka,R,(below_alloc w _).alloc (by simp) _⟩
theorem refCopied_any (h1:Rd w.heap.size w (.slice a1 ns.length c1) ns) (h2:Rd w.heap.size w (.slice a2 ds.length c2) ds) (l1:ns.length≤10000) (l2:ds.length≤10000) (C:Hid (can ns∧can ds)) :
    Calls Tryz.prog 68 #[.agg #[.bool b,.slice a1 ns.length c1,.slice a2 ds.length c2]] w fun e w'=>NumAns w b ns ds e w':=by
 have t1:Hid (tr ns=ns):=can_inj (tr_can h1.lim) C.out.1 (val_tr ns);have t2:Hid (tr ds=ds):=can_inj (tr_can h2.lim) C.out.2 (val_tr ds);obtain ⟨X,R,g⟩:=in1_new (b:=b) w h1 h2;have s1:w.heap.size≤w.heap.size+1:=by omega
 go_enter Tryz.func68,Tryz.ntmps68;go_wp2
 generalize hA:(w.alloc (.cells #[.bool b,.slice a1 ns.length c1,.slice a2 ds.length c2] 24)).alloc (.cells #[.bool false,.slice none 0 0,.slice none 0 0] 24)=v at *;clear hA;have hcells:∀ {w':World},Below v.heap.size v w'→w'.cell? ⟨w.heap.size,0,none⟩=some (.bool b)∧w'.cell? ⟨w.heap.size,1,none⟩=some (.slice a1 ns.length c1)∧w'.cell? ⟨w.heap.size,2,none⟩=some (.slice a2 ds.length c2):=fun hb=>(X.below hb).cells;obtain ⟨X0,X1,X2⟩:=X.cells;have d1:Rd v.heap.size v.drew (.slice a1 ns.length c1) ns:=X.rn;have hn:w.heap.size≠w.heap.size+1:=by omega
 go_region_held3 (fun w'=>w'.cell? ⟨w.heap.size,0,none⟩=some (.bool b)∧w'.cell? ⟨w.heap.size,1,none⟩=some (.slice a1 ns.length c1)∧w'.cell? ⟨w.heap.size,2,none⟩=some (.slice a2 ds.length c2))
  (first | (go_keep;done) | exact tw | exact tw2 | exact tws)
  (first
   | (go_at_call_of 126 (Value.slice a1 ns.length c1);refine (refTrim_rd d1 (by omega)).mono ?_;intro e wa hm;rw [t1.out] at hm;obtain ⟨x1,y1,rfl,o1,ba⟩:=Makes.undrew hm;have tw:=hcells ba;have e2:=(X.below ba).rd)
   | (have j:=ba;go_at_call_of 126 (Value.slice a2 ds.length c2);refine (refTrim_rd e2 (by omega)).mono ?_;intro e wb hm;rw [t2.out] at hm;obtain ⟨x2,y2,rfl,o2,bb⟩:=hm;have bPb:=ba.trans (bb.mono ba.size);have tw2:=hcells bPb;have XB:=(X.below bPb).box;have RB:=R.below bPb;have tws:=And.intro (XB.other hn (.bool b) (.slice x1 ns.length y1) (.slice x2 ds.length y2)).c0 (And.intro (XB.other hn (.bool b) (.slice x1 ns.length y1) (.slice x2 ds.length y2)).c1 (XB.other hn (.bool b) (.slice x1 ns.length y1) (.slice x2 ds.length y2)).c2);have q0:=RB.box.c0;have q1:=RB.box.c1;have q2:=RB.box.c2;have p0:=RB.box.f0;have p1:=RB.box.f1;have p2:=RB.box.f2))
 all_goals
  have o1c:Own v.heap.size wb (.slice x1 ns.length y1) ns:=o1.below bb (Nat.le_refl _);have o2c:Own v.heap.size wb (.slice x2 ds.length y2) ds:=o2.mono ba.size;go_wp2
  have hR3:=RB.box.set (.bool b) (.slice x1 ns.length y1) (.slice x2 ds.length y2);have r0:=hR3.c0;have r1:=hR3.c1;have r2:=hR3.c2;refine bodyPost_ret (v:=.agg #[.bool b,.slice x1 ns.length y1,.slice x2 ds.length y2]) (by simp [results,Tryz.results68,go_sem,r0,r1,r2]) rfl ?_;exact ⟨Below.set3 (g.trans (bPb.mono g.size)) s1 _ _ _,x1,y1,x2,y2,rfl,(Own.set3 o1c R.lt _ _ _).mono g.size,(Own.set3 o2c R.lt _ _ _).mono g.size⟩
end
theorem rd_parts {B:Nat} {w:World} {a:Option Addr} {c:Nat} {xs:List Int} (h:Rd B w (.slice a xs.length c) xs):(a=none∧xs=[]∧c=0)∨∃ ad,a=some ad∧∀ j u,(xs.map (Value.int .u32))[j]? = some u→w.cell? (ad.add j)=some u:=by
 obtain ⟨_,a',c',e,h1,h2,h3,h4⟩:=h;have ea:a'=a∧c'=c:=by cases e;exact ⟨rfl,rfl⟩
 obtain ⟨rfl,rfl⟩:=ea
 cases a' with
 | none=>
  have:=h3 rfl;subst this;exact Or.inl ⟨rfl,List.eq_nil_of_length_eq_zero (by omega),rfl⟩
 | some ad=>
  refine Or.inr ⟨ad,rfl,?_⟩;rcases h4 with h4 | ⟨b,off,e2,_,hc⟩
  · have:xs=[]:=List.eq_nil_of_length_eq_zero h4
    subst this;intro j u h;simp at h
  · cases e2
    exact cells_news hc
/-- Limbs that are appended to none: their copy. -/
theorem append_nil_rd {B:Nat} {w:World} {ops:Array Oper} {rest:List Oper} {o:Oper} {a:Act} {Q:Exit→Act→World→Prop} {a1:Option Addr} {c1:Nat} {ns:List Int} (hgd:o.guard=none) (s x:Operand)
    (ho:o.op=.call { callee:=.builtin .append,args:=#[s,x],argTypes:=#[22,22] }) (hs:a.eval s=.slice none 0 0) (hx:a.eval x=.slice a1 ns.length c1) (hR:Rd B w (.slice a1 ns.length c1) ns) (hl:ns.length*4≤140737488355328)
    (h:∀ x1 y1 w',Own w.heap.size w' (.slice x1 ns.length y1) ns→Below w.heap.size w w'→wpList Tryz.prog ops Q rest (a.put o.dst (.slice x1 ns.length y1)) w'):wpList Tryz.prog ops Q (o :: rest) a w:=by
 obtain ⟨i0,hi,hz0,hz1,hz2⟩:=info_parts info_u32;have hlim:=hR.lim;rcases rd_parts hR with ⟨rfl,rfl,rfl⟩ | ⟨ad,rfl,hN⟩
 · exact wpList_append_own_none hgd s x 22 ho w.heap.size 100 i0 1 Tryz.underlying22 hi (.slice none 0 0) 0 [] hs (World.ownsRow_nil _ _ _ _) hx (h none 0 w ⟨lim_nil,World.ownsRow_nil _ _ _ _⟩ (Below.refl _ _))
 · refine wpList_append_own _ hgd s x 22 ho w.heap.size 100 i0 (.int .u32 0) 1 4 Tryz.underlying22 hi hz0 hz1 hz2 rfl (by decide) (.slice none 0 0) 0 [] hs (World.ownsRow_nil _ _ _ _) ad ns.length c1 (ns.map (Value.int .u32)) hx (by rw [List.length_map];omega) hN (ints_oneCell _ _) ?_ ?_ (Nat.le_refl _) ?_
   · unfold maxLen;omega
   · omega
   intro v' w2 hown hgrow _;rw [Nat.zero_add,List.nil_append] at hown;have o1:Own w.heap.size w2 v' ns:=⟨hlim,hown⟩;obtain ⟨x1,y1,rfl⟩:=o1.form;exact h x1 y1 w2 o1 ((Below.refl _ _).grown hgrow (Nat.le_refl _) (fun k h=>by cases h))
theorem Box3.set1 {w:World} {B ty:Nat} {p q r:Value} (h:Box3 w B ty p q r) (x:Value):Box3 (w.setCell ⟨B,1,none⟩ x) B ty p x r:=by
 unfold Box3 at h ⊢;simp [World.setCell,Array.getElem?_modify,h]
theorem Box3.set2 {w:World} {B ty:Nat} {p q r:Value} (h:Box3 w B ty p q r) (x:Value):Box3 (w.setCell ⟨B,2,none⟩ x) B ty p q x:=by
 unfold Box3 at h ⊢;simp [World.setCell,Array.getElem?_modify,h]
section
variable {w:World} {b:Bool} {a1 a2:Option Addr} {c1 c2:Nat} {ns ds:List Int}
theorem refCopy_any (h1:Rd w.heap.size w (.slice a1 ns.length c1) ns) (h2:Rd w.heap.size w (.slice a2 ds.length c2) ds) (l1:ns.length*4≤140737488355328) (l2:ds.length*4≤140737488355328) :
    Calls Tryz.prog 14 #[.agg #[.bool b,.slice a1 ns.length c1,.slice a2 ds.length c2]] w fun e w'=>NumAns w b ns ds e w':=by
 obtain ⟨X,R,g⟩:=in1_new (b:=b) w h1 h2;have s1:w.heap.size≤w.heap.size+1:=by omega
 clear h1 h2;have t1:=below_alloc ((w.alloc (.cells #[.bool b,.slice a1 ns.length c1,.slice a2 ds.length c2] 24)).alloc (.cells #[.bool false,.slice none 0 0,.slice none 0 0] 24)) (.cells #[.bool b,.slice none 0 0,.slice none 0 0] 24);have hvs:((w.alloc (.cells #[.bool b,.slice a1 ns.length c1,.slice a2 ds.length c2] 24)).alloc (.cells #[.bool false,.slice none 0 0,.slice none 0 0] 24)).heap.size=w.heap.size+1+1:=by rw [World.size_alloc,World.size_alloc]
 have Yb:=box3_new ((w.alloc (.cells #[.bool b,.slice a1 ns.length c1,.slice a2 ds.length c2] 24)).alloc (.cells #[.bool false,.slice none 0 0,.slice none 0 0] 24)) (.bool b) (.slice none 0 0) (.slice none 0 0) 24;rw [hvs] at Yb;have Ylt:w.heap.size+1+1<(((w.alloc (.cells #[.bool b,.slice a1 ns.length c1,.slice a2 ds.length c2] 24)).alloc (.cells #[.bool false,.slice none 0 0,.slice none 0 0] 24)).alloc (.cells #[.bool b,.slice none 0 0,.slice none 0 0] 24)).heap.size:=by rw [World.size_alloc _ (.cells #[.bool b,.slice none 0 0,.slice none 0 0] 24),hvs];omega
 have x0:=X.k0;obtain ⟨X0,X1,X2⟩:=(X.below t1).cells;have y0:=Yb.c0;have y1:=Yb.c1;have y2:=Yb.c2;have z0:=Yb.f0;have z1:=Yb.f1;have z2:=Yb.f2;go_enter Tryz.func14,Tryz.ntmps14
 go_wp2_with (at_builtin;refine append_nil_rd rfl _ _ rfl rfl rfl (X.below t1).rn l1 ?_)
 intro x5 y5 w2 o1' k1';have o1:Own (((w.alloc (.cells #[.bool b,.slice a1 ns.length c1,.slice a2 ds.length c2] 24)).alloc (.cells #[.bool false,.slice none 0 0,.slice none 0 0] 24)).alloc (.cells #[.bool b,.slice none 0 0,.slice none 0 0] 24)).heap.size w2 (.slice x5 ns.length y5) ns:=by simpa using o1'
 have k1:Below (((w.alloc (.cells #[.bool b,.slice a1 ns.length c1,.slice a2 ds.length c2] 24)).alloc (.cells #[.bool false,.slice none 0 0,.slice none 0 0] 24)).alloc (.cells #[.bool b,.slice none 0 0,.slice none 0 0] 24)).heap.size (((w.alloc (.cells #[.bool b,.slice a1 ns.length c1,.slice a2 ds.length c2] 24)).alloc (.cells #[.bool false,.slice none 0 0,.slice none 0 0] 24)).alloc (.cells #[.bool b,.slice none 0 0,.slice none 0 0] 24)) w2:=by simpa using k1'
 clear o1' k1';generalize hA:((w.alloc (.cells #[.bool b,.slice a1 ns.length c1,.slice a2 ds.length c2] 24)).alloc (.cells #[.bool false,.slice none 0 0,.slice none 0 0] 24))=v at *;clear hA;generalize hA:v.alloc (.cells #[.bool b,.slice none 0 0,.slice none 0 0] 24)=v1 at *;clear hA x0 X0 X1 X2 y0 y1 y2 z0 z1 z2;have Y2:=Yb.below k1 Ylt;have z1:=Y2.f1;have y1:=Y2.c1;have t2:Below v.heap.size v (w2.setCell ⟨w.heap.size+1+1,1,none⟩ (.slice x5 ns.length y5)):=(t1.trans (k1.mono t1.size)).setCell (p:=⟨w.heap.size+1+1,1,none⟩) (Nat.le_of_eq hvs) _;have Y3:=Y2.set1 (.slice x5 ns.length y5);have o2:Own v1.heap.size (w2.setCell ⟨w.heap.size+1+1,1,none⟩ (.slice x5 ns.length y5)) (.slice x5 ns.length y5) ns:=o1.setCell (a:=⟨w.heap.size+1+1,1,none⟩) (ownBlock_ne o1 Ylt) _;have s2:v1.heap.size≤(w2.setCell ⟨w.heap.size+1+1,1,none⟩ (.slice x5 ns.length y5)).heap.size:=by
  have:=k1.size;simpa [World.setCell] using this
 have y2:=Y3.c2;obtain ⟨X0,X1,X2⟩:=(X.below t2).cells
 go_wp2_with (at_builtin;refine append_nil_rd rfl _ _ rfl rfl rfl (X.below t2).rd l2 ?_)
 intro x6 y6 w4 o3' k3';have o3:Own (w2.setCell ⟨w.heap.size+1+1,1,none⟩ (.slice x5 ns.length y5)).heap.size w4 (.slice x6 ds.length y6) ds:=by simpa using o3'
 have k3:Below (w2.setCell ⟨w.heap.size+1+1,1,none⟩ (.slice x5 ns.length y5)).heap.size (w2.setCell ⟨w.heap.size+1+1,1,none⟩ (.slice x5 ns.length y5)) w4:=by simpa using k3'
 clear o3' k3';generalize hA:w2.setCell ⟨w.heap.size+1+1,1,none⟩ (.slice x5 ns.length y5)=w3 at *;clear hA z1 y1 y2 X0 X1 X2 o1 k1 Y2;have Ylt3:w.heap.size+1+1<w3.heap.size:=Nat.lt_of_lt_of_le Ylt s2;have Y4:=Y3.below k3 Ylt3;have z2:=Y4.f2;have y3:=Y4.c2;have o4:=o2.below k3 (Nat.le_refl _);have Y5:=Y4.set2 (.slice x6 ds.length y6);have t3:Below v.heap.size v (w4.setCell ⟨w.heap.size+1+1,2,none⟩ (.slice x6 ds.length y6)):=(t2.trans (k3.mono t2.size)).setCell (p:=⟨w.heap.size+1+1,2,none⟩) (Nat.le_of_eq hvs) _;have o5:Own v1.heap.size (w4.setCell ⟨w.heap.size+1+1,2,none⟩ (.slice x6 ds.length y6)) (.slice x5 ns.length y5) ns:=o4.setCell (a:=⟨w.heap.size+1+1,2,none⟩) (ownBlock_ne o4 Ylt) _;have o6:Own w3.heap.size (w4.setCell ⟨w.heap.size+1+1,2,none⟩ (.slice x6 ds.length y6)) (.slice x6 ds.length y6) ds:=o3.setCell (a:=⟨w.heap.size+1+1,2,none⟩) (ownBlock_ne o3 Ylt3) _;have y0:=Y5.c0;have y1:=Y5.c1;have y2:=Y5.c2;have R5:=R.below t3;have q0:=R5.box.c0;have q1:=R5.box.c1;have q2:=R5.box.c2;have p0:=R5.box.f0;have p1:=R5.box.f1;have p2:=R5.box.f2;go_wp2
 have hR3:=R5.box.set (.bool b) (.slice x5 ns.length y5) (.slice x6 ds.length y6);have r0:=hR3.c0;have r1:=hR3.c1;have r2:=hR3.c2;have RL1:w.heap.size+1<v1.heap.size:=Nat.lt_of_lt_of_le R.lt t1.size;have RL3:w.heap.size+1<w3.heap.size:=Nat.lt_of_lt_of_le RL1 s2;have hw1:w.heap.size≤v1.heap.size:=Nat.le_trans g.size t1.size;refine bodyPost_ret (v:=.agg #[.bool b,.slice x5 ns.length y5,.slice x6 ds.length y6]) (by simp [results,Tryz.results14,go_sem,r0,r1,r2]) rfl ?_;exact ⟨Below.set3 (g.trans (t3.mono g.size)) s1 _ _ _,x5,y5,x6,y6,rfl,(Own.set3 o5 RL1 _ _ _).mono hw1,(Own.set3 o6 RL3 _ _ _).mono (Nat.le_trans hw1 s2)⟩
end
theorem row_below {base B e size n:Nat} {w w':World} {v:Value} {xs:List Value} (h:w.ownsRow base e size v n xs) (hb:Below B w w') (hB:w.heap.size≤B):w'.ownsRow base e size v n xs:=by
 obtain ⟨h1,h | ⟨g,cap,cur,hv,hg,hh,r⟩⟩:=h
 · exact ⟨h1,Or.inl h⟩
 · exact ⟨h1,Or.inr ⟨g,cap,cur,hv,hg,by rw [hb.block g (Nat.lt_of_lt_of_le (lt_of_block hh) hB)];exact hh,r⟩⟩
theorem row_own {base e size n:Nat} {w:World} {v:Value} {xs:List Value} (h:w.ownsRow base e size v n xs):∀ g,v.ownBlock=some g→base≤g∧g<w.heap.size:=by
 intro g hg;obtain ⟨_,h | ⟨g',cap,cur,rfl,hb,hh,_⟩⟩:=h
 · rw [h.1] at hg;cases hg
 · cases hg
   exact ⟨hb,lt_of_block hh⟩
theorem row_form3 {W:World} {base e size n:Nat} {v:Value} {xs:List Value} (h:W.ownsRow base e size v n xs):∃ a cap,v=.slice a n cap:=by
 obtain ⟨_,h | ⟨g,cap,cur,rfl,_⟩⟩:=h
 · obtain ⟨rfl,rfl,_⟩:=h;exact ⟨_,_,rfl⟩
 · exact ⟨_,cap,rfl⟩
theorem boxA_grown {W W':World} {B ty:Nat} {xs:Array Value} {row:Option Nat} (h:BoxA W B ty xs) (hg:W.grownBy W' row) (hr:row≠some B):BoxA W' B ty xs:=by
 have hlt:=h.lt;unfold BoxA at h ⊢;rw [hg.block B hlt (fun e=>hr e.symm)];exact h
/-- The blocks that a row's elements point to: new ones, but for the row's own. -/
def FrR (Z:Nat) (W:World) (v:Value):Nat→Prop:=fun g=>Z≤g∧g<W.heap.size∧v.ownBlock≠some g
def cellsOf (xs:List Value) (size j:Nat):Nat→Option Value:=fun k=>xs[j*size+k]?
abbrev Elem:=(Nat→Prop)→World→(Nat→Option Value)→Nat→Prop
def ElemOK (size:Nat) (El:Elem):Prop:=(∀ (D D':Nat→Prop) (w w':World) (c c':Nat→Option Value) (j:Nat),(∀ g,D g→D' g)→Agree D w w'→(∀ k,k<size→c' k=c k)→El D w c j→El D' w' c' j)
/-- A row of elements. -/
def RowOf (e size:Nat) (El:Elem) (Z:Nat) (W:World) (v:Value) (n:Nat):Prop:=∃ xs,W.ownsRow Z e size v n xs∧∀ j,j<n→El (FrR Z W v) W (cellsOf xs size j) j
theorem RowOf.nil {e size:Nat} {El:Elem} {Z:Nat} {W:World}:RowOf e size El Z W (.slice none 0 0) 0:=⟨[],⟨by simp,Or.inl ⟨rfl,rfl⟩⟩,fun j hj=>by omega⟩
theorem RowOf.push {e size n Z:Nat} {El:Elem} {W wa w':World} {O:Obj} {v v':Value} {xs news:List Value} (hE:ElemOK size El) (ho:W.ownsRow Z e size v n xs) (he:∀ j,j<n→El (FrR Z W v) W (cellsOf xs size j) j)
    (hZ:Z≤W.heap.size) (k:Below W.heap.size W wa) (hl:news.length=size) (hn:El (fun g=>W.heap.size≤g∧g<wa.heap.size) wa (fun k=>news[k]?) n)
    (hr:w'.ownsRow Z e size v' (n+1) (xs++news)) (hg:(wa.alloc O).grownBy w' v.ownBlock) (hv:v'.ownBlock=v.ownBlock∨v'.ownBlock=some (wa.alloc O).heap.size):RowOf e size El Z w' v' (n+1):=by
 refine ⟨_,hr,fun j hj => ?_⟩;have s1:=k.size;have s2:=hg.size;rw [World.size_alloc] at s2;have hx:xs.length=n*size:=ho.1;by_cases hjn:j<n
 · refine hE _ _ _ _ _ _ _ ?_ ?_ ?_ (he j hjn)
   · rintro g ⟨g1,g2,g3⟩
     refine ⟨g1,by omega,?_⟩;rcases hv with hv | hv
     · rw [hv];exact g3
     · rw [hv,World.size_alloc];intro h;have:=Option.some.inj h;omega
   · rintro g ⟨g1,g2,g3⟩
     rw [hg.block g (by rw [World.size_alloc];omega) (fun h=>g3 h.symm),(below_alloc wa O).block g (by omega),k.block g g2]
   · intro q hq
     unfold cellsOf;have:j*size+q<xs.length:=by
      rw [hx];have:(j+1)*size≤n*size:=Nat.mul_le_mul_right _ (by omega);rw [Nat.add_mul] at this;omega
     rw [List.getElem?_append_left this]
 · obtain rfl:j=n:=by omega
   refine hE _ _ _ _ _ _ _ ?_ ?_ ?_ hn
   · rintro g ⟨g1,g2⟩
     refine ⟨by omega,by omega,?_⟩;intro h;rcases hv with hv | hv
     · rw [hv] at h;have:=(row_own ho g h).2;omega
     · rw [hv,World.size_alloc] at h;have:=Option.some.inj h;omega
   · rintro g ⟨g1,g2⟩
     rw [hg.block g (by rw [World.size_alloc];omega) (fun h=>by have:=(row_own ho g h.symm).2;omega),(below_alloc wa O).block g g2]
   · intro q hq
     unfold cellsOf;rw [List.getElem?_append_right (by omega),hx]
     congr 1
     omega
theorem RowOf.setCell {e size n Z:Nat} {El:Elem} {W:World} {v:Value} (hE:ElemOK size El) (h:RowOf e size El Z W v n) {a:Addr} (ha:a.block<Z) (u:Value):RowOf e size El Z (W.setCell a u) v n:=by
 obtain ⟨xs,ho,he⟩:=h;refine ⟨xs,ownsRow_setCell_other ho (fun h=>by have:=(row_own ho _ h).1;omega) u,fun j hj=>hE _ _ _ _ _ _ _ ?_ ?_ (fun _ _=>rfl) (he j hj)⟩
 · rintro g ⟨g1,g2,g3⟩
   exact ⟨g1,by simpa [World.setCell] using g2,g3⟩
 · rintro g ⟨g1,g2,g3⟩
   have hne:¬ a.block=g:=by omega
   simp [World.setCell,Array.getElem?_modify,hne]
theorem RowOf.below {e size n Z B:Nat} {El:Elem} {W W':World} {v:Value} (hE:ElemOK size El) (h:RowOf e size El Z W v n) (hb:Below B W W') (hB:W.heap.size≤B):RowOf e size El Z W' v n:=by
 obtain ⟨xs,ho,he⟩:=h;refine ⟨xs,row_below ho hb hB,fun j hj=>hE _ _ _ _ _ _ _ ?_ ?_ (fun _ _=>rfl) (he j hj)⟩
 · rintro g ⟨g1,g2,g3⟩
   exact ⟨g1,Nat.lt_of_lt_of_le g2 hb.size,g3⟩
 · rintro g ⟨g1,g2,g3⟩
   exact hb.block g (by omega)
/-- A round: a new element is made, appended, and the slice stored in the variable's block Y. -/
theorem row_round {e size n Z Y o B:Nat} {El:Elem} {V wc W wa w':World} {O:Obj} {v v' u:Value} {xs news:List Value} (hE:ElemOK size El) (ho:W.ownsRow Z e size v n xs) (he:∀ j,j<n→El (FrR Z W v) W (cellsOf xs size j) j)
    (hk:∀ g,g<Z→g≠Y→W.heap[g]? = wc.heap[g]?) (hb:Below B V W) (hZ:Z≤W.heap.size) (hY:B≤Y) (lY:Y<Z) (k:Below W.heap.size W wa) (hl:news.length=size) (hn:El (fun g=>W.heap.size≤g∧g<wa.heap.size) wa (fun k=>news[k]?) n)
    (hr:w'.ownsRow Z e size v' (n+1) (xs++news)) (hg:(wa.alloc O).grownBy w' v.ownBlock) (hv:v'.ownBlock=v.ownBlock∨v'.ownBlock=some (wa.alloc O).heap.size) :
    RowOf e size El Z (w'.setCell ⟨Y,o,none⟩ u) v' (n+1)∧Below B V (w'.setCell ⟨Y,o,none⟩ u)∧Z≤(w'.setCell ⟨Y,o,none⟩ u).heap.size∧∀ g,g<Z→g≠Y→(w'.setCell ⟨Y,o,none⟩ u).heap[g]? = wc.heap[g]?:=by
 have s1:=k.size;have s2:=hg.size;rw [World.size_alloc] at s2;have kA:=below_alloc wa O;have kw:Below B V w':=⟨hg.os.trans (kA.os.trans (k.os.trans hb.os)),hg.tape.trans (kA.tape.trans (k.tape.trans hb.tape)),hg.output.trans (kA.output.trans (k.output.trans hb.output)),by have:=hb.size;omega,fun g hgB=>by
  rw [hg.block g (by rw [World.size_alloc];omega) (fun h=>by have:=(row_own ho g h.symm).1;omega),kA.block g (by omega),k.block g (by omega),hb.block g hgB]⟩
 refine ⟨(RowOf.push hE ho he hZ k hl hn hr hg hv).setCell hE (a:=⟨Y,o,none⟩) lY u,kw.setCell (p:=⟨Y,o,none⟩) hY u,by simp [World.setCell];omega,fun g h1 h2 => ?_⟩;have hne:¬ Y=g:=fun h=>h2 h.symm;have e1:(w'.setCell ⟨Y,o,none⟩ u).heap[g]? = w'.heap[g]?:=by simp [World.setCell,Array.getElem?_modify,hne]
 rw [e1,hg.block g (by rw [World.size_alloc];omega) (fun h=>by have:=(row_own ho g h.symm).1;omega),kA.block g (by omega),k.block g (by omega),hk g h1 h2]
/-- Its cells. -/
theorem RowOf.rowB {e size n Z:Nat} {El:Elem} {W:World} {v:Value} {C:Nat→Nat→Nat→Prop} {D:Nat→Prop} (h:RowOf e size El Z W v n) (hD:∀ g,Z≤g→g<W.heap.size→D g)
    (hC:∀ g c j,j<n→El (FrR Z W v) W c j→(∀ k,k<size→c k=W.cell? ⟨g,0+j*size+k,none⟩)→C g 0 j):RowB D n v C:=by
 obtain ⟨xs,ho,he⟩:=h;have hrow:=ho;obtain ⟨h1,h | ⟨g,cap,cur,rfl,hg,hh,h2,h3,h4,h5⟩⟩:=ho
 · obtain ⟨rfl,rfl⟩:=h
   exact ⟨none,0,rfl,Nat.le_refl _,by omega,fun _=>rfl,Or.inl rfl⟩
 · refine ⟨_,cap,rfl,h2,by unfold maxLen at h3;omega,(fun h=>by cases h),Or.inr ⟨g,0,rfl,hD g hg (lt_of_block hh),fun j hj=>hC g _ j hj (he j hj) (fun k hk => ?_)⟩⟩
   have:(j+1)*size≤n*size:=Nat.mul_le_mul_right _ (by omega);rw [Nat.add_mul] at this;have e:=hrow.cellAt (j*size+k) (by omega);rw [Nat.zero_add];exact e.symm
/-- The items of an array. -/
def ElI (f:Nat) (l:List Tr):Elem:=fun D w c j=>∃ a1 c1 a2 c2 a3 c3,(c 0=some (.int .u8 (l.getD j tr0).k)∧c 1=some (.bool (l.getD j tr0).b)∧c 2=some (.slice a1 (l.getD j tr0).ns.length c1)∧c 3=some (.slice a2 (l.getD j tr0).ds.length c2)∧c 4=some (.int .i32 (l.getD j tr0).c)∧c 5=some (.slice a3 (l.getD j tr0).kids.length c3))∧ItV (ArV f D w) D w a1 c1 a2 c2 a3 c3 (l.getD j tr0)
theorem elI_ok (f:Nat) (l:List Tr):ElemOK 6 (ElI f l):=by
 rintro D D' w w' c c' j hD hb hc ⟨a1,c1,a2,c2,a3,c3,⟨e0,e1,e2,e3,e4,e5⟩,hv⟩;exact ⟨a1,c1,a2,c2,a3,c3,⟨(hc 0 (by omega)).trans e0,(hc 1 (by omega)).trans e1,(hc 2 (by omega)).trans e2,(hc 3 (by omega)).trans e3,(hc 4 (by omega)).trans e4,(hc 5 (by omega)).trans e5⟩,hv.imp hD hb (fun _ _ _ h=>ArV.imp hD hb f f _ _ _ (Nat.le_refl _) h)⟩
theorem rowB_I {e n Z f:Nat} {l:List Tr} {W:World} {v:Value} {D:Nat→Prop} (h:RowOf e 6 (ElI f l) Z W v n) (hD:∀ g,Z≤g→g<W.heap.size→D g) :
    RowB D n v (fun g o j=>ItC (ArV f D W) D W g (o+j*6) (l.getD j tr0)):=
 h.rowB hD (fun g c j hj ⟨a1,c1,a2,c2,a3,c3,⟨e0,e1,e2,e3,e4,e5⟩,hv⟩ hc=>⟨a1,c1,a2,c2,a3,c3,⟨(hc 0 (by omega)).symm.trans e0,(hc 1 (by omega)).symm.trans e1,(hc 2 (by omega)).symm.trans e2,(hc 3 (by omega)).symm.trans e3,(hc 4 (by omega)).symm.trans e4,(hc 5 (by omega)).symm.trans e5⟩,hv.imp (fun g hg=>hD g hg.1 hg.2.1) (fun _ _=>rfl) (fun _ _ _ h=>h.mono (fun g hg=>hD g hg.1 hg.2.1))⟩)
theorem cells_new (w:World) (xs:Array Value) (t:TypeId):∀ j u,xs.toList[j]? = some u→(w.alloc (.cells xs t)).cell? ((⟨w.heap.size,0,none⟩:Addr).add j)=some u:=by
 intro j u hj;simp only [Array.getElem?_toList] at hj;have h:=(boxA_new w xs t).cell (0+j) (v:=u) (by rw [Nat.zero_add];exact hj);rw [Nat.zero_add] at h;have e:((⟨w.heap.size,0,none⟩:Addr).add j)=⟨w.heap.size,j,none⟩:=by
  by_cases h0:j=0
  · subst h0;simp [Addr.add]
  · simp [Addr.add,h0]
 rw [e];exact h
/-- Blocks that are new. -/
def Fr (n m:Nat):Nat→Prop:=fun g=>n≤g∧g<m
section
variable {D:Nat→Prop} {f:Nat} {w:World} {a1 a2 a3:Option Addr} {c1 c2 c3:Nat} {t:Tr}
end
theorem info_int3:(Tryz.prog.info? 3).map (fun i=>(i.zero,i.size,i.bytes))=some (some (.int .i64 0),1,8):=by kernel_rfl
theorem getD_map_i64 (xs:List Int) (j:Nat) (h:j<xs.length):(xs.map (Value.int .i64))[j]? = some (.int .i64 (xs.getD j 0)):=by
 simp [h]
theorem rdN_parts {D:Nat→Prop} {w:World} {a:Option Addr} {c:Nat} {xs:List Int} (h:RdN D w (.slice a xs.length c) xs):(a=none∧xs=[]∧c=0)∨∃ ad,a=some ad∧∀ j u,(xs.map (Value.int .i64))[j]? = some u→w.cell? (ad.add j)=some u:=by
 obtain ⟨_,a',c',e,h1,h2,h3,h4⟩:=h;obtain ⟨rfl,_,rfl⟩:=Value.slice.inj e
 cases a with
 | none=>
  have:=h3 rfl;subst this;exact Or.inl ⟨rfl,List.eq_nil_of_length_eq_zero (by omega),rfl⟩
 | some ad=>
  refine Or.inr ⟨ad,rfl,?_⟩;rcases h4 with h4 | ⟨b,off,e2,_,hc⟩
  · have:xs=[]:=List.eq_nil_of_length_eq_zero h4
    subst this;intro j u h;simp at h
  · cases e2
    intro j u h;have hj:j<xs.length:=by
     have:=(List.getElem?_eq_some_iff.1 h).1;simpa using this
    rw [getD_map_i64 xs j hj] at h;rw [← h,← hc j hj];have e:(⟨b,off,none⟩:Addr).add j=⟨b,off+j,none⟩:=by
     cases j with
     | zero=>simp [Addr.add]
     | succ j=>simp [Addr.add]
    rw [e]
/-- Lengths that are appended to none: their copy. -/
theorem append_nilN {D:Nat→Prop} {w:World} {ops:Array Oper} {rest:List Oper} {o:Oper} {a:Act} {Q:Exit→Act→World→Prop} {a1:Option Addr} {c1:Nat} {ns:List Int} (hgd:o.guard=none) (s x:Operand)
    (ho:o.op=.call { callee:=.builtin .append,args:=#[s,x],argTypes:=#[48,48] }) (hs:a.eval s=.slice none 0 0) (hx:a.eval x=.slice a1 ns.length c1) (hR:RdN D w (.slice a1 ns.length c1) ns) (hl:ns.length*8≤140737488355328)
    (h:∀ x1 y1 w',RdN (Fr w.heap.size w'.heap.size) w' (.slice x1 ns.length y1) ns→Below w.heap.size w w'→wpList Tryz.prog ops Q rest (a.put o.dst (.slice x1 ns.length y1)) w'):wpList Tryz.prog ops Q (o :: rest) a w:=by
 obtain ⟨i0,hi,hz0,hz1,hz2⟩:=info_parts info_int3;have hlim:=hR.1;rcases rdN_parts hR with ⟨rfl,rfl,rfl⟩ | ⟨ad,rfl,hN⟩
 · exact wpList_append_own_none hgd s x 48 ho w.heap.size 3 i0 1 Tryz.underlying48 hi (.slice none 0 0) 0 [] hs (World.ownsRow_nil _ _ _ _) hx (h none 0 w ⟨hlim,none,0,rfl,Nat.le_refl _,by omega,fun _=>rfl,Or.inl rfl⟩ (Below.refl _ _))
 · refine wpList_append_own _ hgd s x 48 ho w.heap.size 3 i0 (.int .i64 0) 1 8 Tryz.underlying48 hi hz0 hz1 hz2 rfl (by decide) (.slice none 0 0) 0 [] hs (World.ownsRow_nil _ _ _ _) ad ns.length c1 (ns.map (Value.int .i64)) hx (by rw [List.length_map];omega) hN (ints_oneCell _ _) ?_ ?_ (Nat.le_refl _) ?_
   · unfold maxLen;omega
   · omega
   intro v' w2 hown hgrow _;rw [Nat.zero_add,List.nil_append] at hown;obtain ⟨x1,y1,rfl⟩:=row_form3 hown;refine h x1 y1 w2 ?_ ((Below.refl _ _).grown hgrow (Nat.le_refl _) (fun k h=>by cases h));have hrow:=hown;obtain ⟨_,h | ⟨g,cap,cur,hv,hg,hh,h2,h3,_,_⟩⟩:=hown
   · obtain ⟨e1,e2⟩:=h
     obtain ⟨rfl,_,rfl⟩:=Value.slice.inj e1;exact ⟨hlim,none,0,rfl,by omega,by omega,fun _=>rfl,Or.inl e2⟩
   · obtain ⟨rfl,_,rfl⟩:=Value.slice.inj hv
     refine ⟨hlim,_,y1,rfl,h2,by unfold maxLen at h3;omega,(fun h=>by cases h),Or.inr ⟨g,0,rfl,⟨hg,lt_of_block hh⟩,fun j hj => ?_⟩⟩;have:=hrow.cellAt j (by omega);rw [getD_map_i64 ns j hj] at this;rw [Nat.zero_add];exact this
theorem boxA_s0 {w:World} {R ty:Nat} {u0 u1:Value} (h:BoxA w R ty #[u0,u1]) (u:Value):BoxA (w.setCell ⟨R,0,none⟩ u) R ty #[u,u1]:=by
 unfold BoxA at h ⊢;simp [World.setCell,Array.getElem?_modify,h]
theorem boxA_s1 {w:World} {R ty:Nat} {u0 u1:Value} (h:BoxA w R ty #[u0,u1]) (u:Value):BoxA (w.setCell ⟨R,1,none⟩ u) R ty #[u0,u]:=by
 unfold BoxA at h ⊢;simp [World.setCell,Array.getElem?_modify,h]
theorem set1_other {w:World} {a:Addr} {g:Nat} (h:¬ a.block=g) (u:Value):(w.setCell a u).heap[g]? = w.heap[g]?:=by
 simp [World.setCell,Array.getElem?_modify,h]
theorem set1_size {w:World} {a:Addr} (u:Value):(w.setCell a u).heap.size=w.heap.size:=by
 simp [World.setCell]
theorem info_item3:(Tryz.prog.info? 93).map (fun i=>(i.zero,i.size,i.bytes))=some (some (.agg #[.int .u8 0,.bool false,.slice none 0 0,.slice none 0 0,.int .i32 0,.slice none 0 0]),6,96):=by kernel_rfl
/-- The product of lengths, if it is at most 4096 all the way. -/
def prodF:List Int→Int→Option Int
 | [],s=>some s
 | n :: r,s=>if 4096<s*n then none else prodF r (s*n)
def loF (sh:List Int):Int:=sh.foldl min 1
def hiF (sh:List Int):Int:=sh.foldl max 1
/-- How many items a shape has, and its error. -/
def sizeF (sh:List Int):Int×Int:=
 if 8<sh.length then (0,4) else if loF sh<0 then (0,3) else if 4096<hiF sh then (0,8) else if loF sh=0 then (0,0)
 else match prodF sh 1 with | some n=>(n,0) | none=>(0,8)
theorem foldl_lo:∀ (l:List Int) (a:Int),l.foldl min a≤a∧∀ x∈l,l.foldl min a≤x
 | [],a=>⟨by simp,fun x h=>by cases h⟩
 | y :: l,a=>by
  have h:=foldl_lo l (min a y);rw [List.foldl_cons];refine ⟨by omega,fun x hx => ?_⟩;rcases List.mem_cons.1 hx with rfl | hx
  · omega
  · exact h.2 x hx
theorem foldl_hi:∀ (l:List Int) (a:Int),a≤l.foldl max a∧∀ x∈l,x≤l.foldl max a
 | [],a=>⟨by simp,fun x h=>by cases h⟩
 | y :: l,a=>by
  have h:=foldl_hi l (max a y);rw [List.foldl_cons];refine ⟨by omega,fun x hx => ?_⟩;rcases List.mem_cons.1 hx with rfl | hx
  · omega
  · exact h.2 x hx
theorem take_fold {f:Int→Int→Int} {l:List Int} {i:Nat} (h:i<l.length) (a:Int):(l.take (i+1)).foldl f a=f ((l.take i).foldl f a) (l.getD i 0):=by
 rw [← List.take_append_getElem h,List.foldl_append];simp [List.getD,h]
theorem mulLen {s n:Int} (h1:1≤s) (h2:s≤4096) (h3:1≤n) (h4:n≤4096):1≤s*n∧s*n≤16777216:=by
 have a1:s*n≤4096*n:=Int.mul_le_mul_of_nonneg_right h2 (by omega);have a2:1*n≤s*n:=Int.mul_le_mul_of_nonneg_right h1 (by omega);omega
theorem prodF_in:∀ (l:List Int) (s n:Int),1≤s→s≤4096→(∀ x∈l,1≤x∧x≤4096)→prodF l s=some n→1≤n∧n≤4096
 | [],s,n,h1,h2,_,h=>by rw [prodF] at h;cases h;exact ⟨h1,h2⟩
 | x :: l,s,n,h1,h2,hl,h=>by
  rw [prodF] at h;have hx:=hl x (by simp);have hb:=mulLen h1 h2 hx.1 hx.2;by_cases hc:4096<s*x
  · rw [if_pos hc] at h;cases h
  · rw [if_neg hc] at h
    exact prodF_in l _ n hb.1 (by omega) (fun y hy=>hl y (by simp [hy])) h
theorem sizeF_in (sh:List Int):0≤(sizeF sh).1∧(sizeF sh).1≤4096:=by
 unfold sizeF
 split
 · exact ⟨by decide,by decide⟩
 split
 · exact ⟨by decide,by decide⟩
 split
 · exact ⟨by decide,by decide⟩
 split
 · exact ⟨by decide,by decide⟩
 · rename_i h1 h2 h3 h4
   have hlo:=foldl_lo sh 1;have hhi:=foldl_hi sh 1
   cases hp:prodF sh 1 with
   | none=>exact ⟨by decide,by decide⟩
   | some n=>
    have:=prodF_in sh 1 n (by omega) (by omega) (fun x hx=>by
     have a:=hlo.2 x hx;have b:=hhi.2 x hx;unfold loF at h2 h4;unfold hiF at h3;omega) hp
    exact ⟨by simp;omega,by simp;omega⟩
section
variable {D:Nat→Prop} {w:World} {a:Option Addr} {c:Nat} {sh:List Int}
theorem lengths_any (h:RdN D w (.slice a sh.length c) sh) (hD:∀ g,D g→g<w.heap.size) (hin:∀ x∈sh,1≤x∧x≤4096) :
    Calls Tryz.prog 189 #[.slice a sh.length c] w fun e w'=>(∃ n,prodF sh 1=some n∧e=.returned (.tuple #[.int .i64 n,.int .i64 0])∧w'=w)∨(prodF sh 1=none∧e=.returned (.tuple #[.int .i64 0,.int .i64 8])∧w'=w):=by
 have bd:=h.bounds;have HH:Hid (RdN D w (.slice a sh.length c) sh):=h;have HIN:Hid (∀ x∈sh,1≤x∧x≤4096):=hin;clear h hin;go_enter Tryz.func189,Tryz.ntmps189;go_wp2
 go_loopw [4,9] (fun sv iv wr=>∃ (i:Nat) (S:Int),sv=.int .i64 S∧iv=.int .i64 i∧i≤sh.length∧1≤S∧S≤4096∧Hid (prodF sh 1=prodF (sh.drop i) S)∧wr=w) (fun _ iv _=>sh.length - (intOf iv).toNat)
 case atStart=>exact ⟨0,1,rfl,rfl,Nat.zero_le _,by omega,by omega,rfl,rfl⟩
 case round=>
  obtain ⟨i,S,rfl,rfl,hil,h1,h2,HP,hwr⟩:=hrel;subst hwr;by_cases hlt:i<sh.length
  · obtain ⟨g,o,rfl,hg,hc⟩:=HH.out.ptr (by omega)
    have q:=hc i hlt;have hx:=HIN.out (sh.getD i 0) (by simp [List.getD,hlt]);have HQ:Hid (prodF (sh.drop i) S=if 4096<S*sh.getD i 0 then none else prodF (sh.drop (i+1)) (S*sh.getD i 0)):=by
     unfold Hid;rw [List.drop_eq_getElem_cons hlt,prodF];simp [List.getD,hlt]
    clear hc;generalize sh.getD i 0=X at *;have hb:=mulLen h1 h2 hx.1 hx.2;by_cases hbig:4096<S*X
    · have HN:Hid (prodF sh 1=none):=by unfold Hid;rw [HP.out,HQ.out,if_pos hbig]
      go_wp2
      go_ret2
      exact Or.inr ⟨HN.out,rfl,rfl⟩
    · have HN:Hid (prodF sh 1=prodF (sh.drop (i+1)) (S*X)):=by unfold Hid;rw [HP.out,HQ.out,if_neg hbig]
      go_wp2
      go_roundw
      case rel=>exact ⟨i+1,S*X,by go_num,by go_num,by omega,hb.1,by omega,HN,(by first | rfl | trivial)⟩
      case measure=>simp [intOf];omega
  · have HN:Hid (prodF sh 1=some S):=by
     unfold Hid;rw [HP.out,List.drop_eq_nil_of_le (by omega),prodF]
    go_wp2
    go_ret2
    exact Or.inl ⟨S,HN.out,rfl,rfl⟩
theorem arrSize_any (h:RdN D w (.slice a sh.length c) sh) (hD:∀ g,D g→g<w.heap.size) :
    Calls Tryz.prog 165 #[.slice a sh.length c] w fun e w'=>e=.returned (.tuple #[.int .i64 (sizeF sh).1,.int .i64 (sizeF sh).2])∧w'=w:=by
 have bd:=h.bounds;have HH:Hid (RdN D w (.slice a sh.length c) sh):=h;have HD:Hid (∀ g,D g→g<w.heap.size):=hD;clear h hD;go_enter Tryz.func165,Tryz.ntmps165;by_cases h8:8<sh.length
 · have HF:Hid (sizeF sh=(0,4)):=by unfold Hid sizeF;rw [if_pos h8]
   go_wp2
   go_ret2
   exact ⟨by rw [HF.out];rfl,rfl⟩
 go_wp2
 go_loopw [4,5,13] (fun lv hv iv wr=>∃ (i:Nat) (lo hi:Int),lv=.int .i64 lo∧hv=.int .i64 hi∧iv=.int .i64 i∧i≤sh.length∧Hid (lo=(sh.take i).foldl min 1)∧Hid (hi=(sh.take i).foldl max 1)∧wr=w) (fun _ _ iv _=>sh.length - (intOf iv).toNat)
 case atStart=>exact ⟨0,1,1,rfl,rfl,rfl,Nat.zero_le _,rfl,rfl,rfl⟩
 case round=>
  obtain ⟨i,lo,hi,rfl,rfl,rfl,hil,HL,HI,hwr⟩:=hrel;subst hwr;by_cases hlt:i<sh.length
  · obtain ⟨g,o,rfl,hg,hc⟩:=HH.out.ptr (by omega)
    have q:=hc i hlt;have HL2:Hid (min lo (sh.getD i 0)=(sh.take (i+1)).foldl min 1):=by unfold Hid;rw [take_fold hlt,HL.out]
    have HI2:Hid (max hi (sh.getD i 0)=(sh.take (i+1)).foldl max 1):=by unfold Hid;rw [take_fold hlt,HI.out]
    clear hc;generalize sh.getD i 0=X at *;go_wp2
    go_roundw
    case rel=>exact ⟨i+1,min lo X,max hi X,rfl,rfl,by go_num,by omega,HL2,HI2,(by first | rfl | trivial)⟩
    case measure=>simp [intOf];omega
  · have hlo:lo=loF sh:=by rw [HL.out,List.take_of_length_le (by omega)];rfl
    have hhi:hi=hiF sh:=by rw [HI.out,List.take_of_length_le (by omega)];rfl
    have HLO:Hid (lo=loF sh):=hlo;have HHI:Hid (hi=hiF sh):=hhi;clear hlo hhi HL HI;by_cases c1:lo<0
    · have HF:Hid (sizeF sh=(0,3)):=by unfold Hid sizeF;rw [if_neg h8,if_pos (by rw [← HLO.out];exact c1)]
      go_wp2
      go_ret2
      exact ⟨by rw [HF.out];rfl,rfl⟩
    by_cases c2:4096<hi
    · have HF:Hid (sizeF sh=(0,8)):=by unfold Hid sizeF;rw [if_neg h8,if_neg (by rw [← HLO.out];exact c1),if_pos (by rw [← HHI.out];exact c2)]
      go_wp2
      go_ret2
      exact ⟨by rw [HF.out];rfl,rfl⟩
    by_cases c3:lo=0
    · have HF:Hid (sizeF sh=(0,0)):=by unfold Hid sizeF;rw [if_neg h8,if_neg (by rw [← HLO.out];exact c1),if_neg (by rw [← HHI.out];exact c2),if_pos (by rw [← HLO.out];exact c3)]
      go_wp2
      go_ret2
      exact ⟨by rw [HF.out];rfl,rfl⟩
    have HF:Hid (sizeF sh=match prodF sh 1 with | some n=>(n,0) | none=>(0,8)):=by unfold Hid sizeF;rw [if_neg h8,if_neg (by rw [← HLO.out];exact c1),if_neg (by rw [← HHI.out];exact c2),if_neg (by rw [← HLO.out];exact c3)]
    have HIN:Hid (∀ x∈sh,1≤x∧x≤4096):=fun x hx=>by
     have a1:=(foldl_lo sh 1).2 x hx;have a2:=(foldl_hi sh 1).2 x hx;have a3:=HLO.out;have a4:=HHI.out;unfold loF at a3;unfold hiF at a4;omega
    go_wp2_with fail
    refine (lengths_any HH.out HD.out HIN.out).mono ?_;rintro e w1 (⟨n,hn,rfl,rfl⟩ | ⟨hn,rfl,rfl⟩)
    · go_wp2
      go_ret2
      exact ⟨by rw [HF.out,hn];rfl,rfl⟩
    · go_wp2
      go_ret2
      exact ⟨by rw [HF.out,hn];rfl,rfl⟩
end
end
end Go.Proofs.YtilbfkabfgnhpaaGreat
