/- Items as values; rows of them; the iterator of a slice of items. -/
import Derived.Test.YtheaeggecpfcbaaGreatK7
import Derived.Shelf.Abstract
import Derived.Shelf.RegionOpen
import Derived.OwnWalkIn
import Derived.TacticsInMore
import Derived.LoopNIn
import Derived.LoopIn
import Derived.Test.YtheaeggecpfcbaaGreatK8
import Derived.Test.YtheaeggecpfcbaaGreatK9
import Derived.Deep.RegionHeld3
set_option maxRecDepth 100000
set_option maxHeartbeats 16000000
set_option linter.unusedVariables false
set_option linter.unusedSimpArgs false
namespace Go.Proofs.YtheaeggecpfcbaaGreat
section
open Go.RowKit Go.Shelf
attribute [local go_sem] Oper.semAt_some
/-- What the six cells of an item hold. -/
structure IV where
 k:Int
 b:Bool
 a1:Option Addr
 n1:Nat
 c1:Nat
 a2:Option Addr
 n2:Nat
 c2:Nat
 c:Int
 a3:Option Addr
 n3:Nat
 c3:Nat
def iv0:IV:=⟨0,false,none,0,0,none,0,0,0,none,0,0⟩
def IV.arr (x:IV):Array Value:=#[.int .u8 x.k,.bool x.b,.slice x.a1 x.n1 x.c1,.slice x.a2 x.n2 x.c2,.int .i32 x.c,.slice x.a3 x.n3 x.c3]
def IV.encs (x:IV):Array Value:=#[.agg #[.int .u8 x.k,.bool x.b,.slice x.a1 x.n1 x.c1,.slice x.a2 x.n2 x.c2,.int .i32 x.c,.slice x.a3 x.n3 x.c3]]
/-- It is the item t. -/
structure IsIt (f:Nat) (D:Nat→Prop) (w:World) (x:IV) (t:Tr):Prop where
 k:x.k=t.k
 b:x.b=t.b
 n1:x.n1=t.ns.length
 n2:x.n2=t.ds.length
 c:x.c=t.c
 n3:x.n3=t.kids.length
 v:ItV (ArV f D w) D w x.a1 x.c1 x.a2 x.c2 x.a3 x.c3 t
theorem IsIt.imp {f:Nat} {D D':Nat→Prop} {w w':World} {x:IV} {t:Tr} (h:IsIt f D w x t) (hD:∀ g,D g→D' g) (hb:Agree D w w'):IsIt f D' w' x t:=
 ⟨h.k,h.b,h.n1,h.n2,h.c,h.n3,h.v.imp hD hb (fun _ _ _ h=>ArV.imp hD hb f f _ _ _ (Nat.le_refl _) h)⟩
theorem IsIt.agree {f:Nat} {D:Nat→Prop} {w w':World} {x:IV} {t:Tr} (h:IsIt f D w x t) (hb:Agree D w w'):IsIt f D w' x t:=h.imp (fun _ h=>h) hb
/-- Six cells in a row. -/
def CellsAt (W:World) (g o:Nat) (x:IV):Prop:=W.cell? ⟨g,o,none⟩=some (.int .u8 x.k)∧W.cell? ⟨g,o+1,none⟩=some (.bool x.b)∧W.cell? ⟨g,o+2,none⟩=some (.slice x.a1 x.n1 x.c1)∧W.cell? ⟨g,o+3,none⟩=some (.slice x.a2 x.n2 x.c2)∧W.cell? ⟨g,o+4,none⟩=some (.int .i32 x.c)∧W.cell? ⟨g,o+5,none⟩=some (.slice x.a3 x.n3 x.c3)
theorem CellsAt.agree {D:Nat→Prop} {W W':World} {g o:Nat} {x:IV} (h:CellsAt W g o x) (hb:Agree D W W') (hg:D g):CellsAt W' g o x:=
 ⟨(hb.cell hg).trans h.1,(hb.cell hg).trans h.2.1,(hb.cell hg).trans h.2.2.1,(hb.cell hg).trans h.2.2.2.1,(hb.cell hg).trans h.2.2.2.2.1,(hb.cell hg).trans h.2.2.2.2.2⟩
/-- A slice of items, by their cells. -/
def RowIV (D:Nat→Prop) (W:World) (v:Value) (L:List IV):Prop:=RowB D L.length v (fun g o j=>CellsAt W g (o+j*6) (L.getD j iv0))
theorem list_of {α:Type} (d:α) (P:Nat→α→Prop):∀ n:Nat,(∀ j,j<n→∃ x,P j x)→∃ L:List α,L.length=n∧∀ j,j<n→P j (L.getD j d)
 | 0,_=>⟨[],rfl,fun j hj=>by omega⟩
 | n+1,h=>by
  obtain ⟨L,h1,h2⟩:=list_of d P n (fun j hj=>h j (by omega));obtain ⟨x,hx⟩:=h n (by omega);refine ⟨L++[x],by simp [h1],fun j hj => ?_⟩;by_cases hjn:j<n
  · have:=h2 j hjn
    rw [List.getD_eq_getElem?_getD,List.getElem?_append_left (by omega),← List.getD_eq_getElem?_getD];exact this
  · obtain rfl:j=n:=by omega
    rw [List.getD_eq_getElem?_getD,List.getElem?_append_right (by omega),h1];simpa using hx
/-- The items of an array, by their cells. -/
theorem row_iv {f:Nat} {D:Nat→Prop} {w:World} {v:Value} {l:List Tr} (h:RowB D l.length v (fun g o j=>ItC (ArV f D w) D w g (o+j*6) (l.getD j tr0))) :
    ∃ L:List IV,L.length=l.length∧RowIV D w v L∧∀ j,j<l.length→IsIt f D w (L.getD j iv0) (l.getD j tr0):=by
 obtain ⟨a,cap,rfl,h1,h2,h3,h4⟩:=h;rcases h4 with h4 | ⟨g,o,rfl,hg,hc⟩
 · refine ⟨[],h4.symm,?_,fun j hj=>by omega⟩
   rw [h4] at h1 ⊢;exact ⟨a,cap,rfl,h1,h2,h3,Or.inl rfl⟩
 · obtain ⟨L,e1,e2⟩:=list_of iv0 (fun j x=>CellsAt w g (o+j*6) x∧IsIt f D w x (l.getD j tr0)) l.length (fun j hj=>by
    obtain ⟨b1,d1,b2,d2,b3,d3,hcs,hv⟩:=hc j hj;exact ⟨⟨(l.getD j tr0).k,(l.getD j tr0).b,b1,(l.getD j tr0).ns.length,d1,b2,(l.getD j tr0).ds.length,d2,(l.getD j tr0).c,b3,(l.getD j tr0).kids.length,d3⟩,hcs,rfl,rfl,rfl,rfl,rfl,rfl,hv⟩)
   refine ⟨L,e1,?_,fun j hj=>(e2 j hj).2⟩;rw [← e1] at h1 ⊢;exact ⟨_,cap,rfl,h1,h2,h3,Or.inr ⟨g,o,rfl,hg,fun j hj=>(e2 j (by omega)).1⟩⟩
/-- What a round keeps. -/
structure KeepW (n₀:Nat) (W W':World):Prop where
 below:Below n₀ W W'
 others:KeepsWalks W W'
theorem KeepW.trans {n₀:Nat} {A B C:World} (h:KeepW n₀ A B) (k:KeepW n₀ B C):KeepW n₀ A C:=⟨h.below.trans k.below,h.others.trans k.others⟩
theorem keepW_put {n₀ B0:Nat} (h1:n₀≤B0) (W:World) (l:Nat) (o o':Obj) (hl:B0≤l) (ho:W.heap[l]? = some o) (hw:o.isWalk=false):KeepW n₀ W (W.putObj l o'):=
 ⟨(Below.refl _ W).grown (grownBy_putObj' W l o') (by have:=(Array.getElem?_eq_some_iff.1 ho).1;omega) (fun k e=>by cases e;omega),KeepsWalks.putObj _ ho hw⟩
/-- An item among those that come. -/
theorem pre_next {α:Type} {d:α} {L pre:List α} {x:α} (h:pre++[x] <+: L):pre.length<L.length∧x=L.getD pre.length d:=by
 obtain ⟨r,rfl⟩:=h;constructor
 · simp
 · simp
theorem pre_step {α:Type} {d:α} {L:List α} {i:Nat} (h:i<L.length):L.take i++[L.getD i d]=L.take (i+1):=by
 rw [List.take_add_one,List.getD_eq_getElem?_getD,List.getElem?_eq_getElem h];simp
theorem values_pays {w:World} {D:Nat→Prop} {a2:Option Addr} {c2:Nat} {L:List IV} {Bn n₀:Nat} (n:Nat) (hn:2≤n) (hn₀:Bn<n₀) (hnw:n₀≤w.heap.size) (hBn:BoxA w Bn 22 #[.slice a2 L.length c2]) (hR:RowIV D w (.slice a2 L.length c2) L) (hD:∀ g,D g→g<n₀) :
    Pays Fence.wide n Tryz.prog 129 #[.pointer (some ⟨Bn,0,none⟩)] IV.encs (KeepW n₀) (fun pre x W=>pre++[x] <+: L∧Below n₀ w W) (fun xs W=>xs=L∧Below n₀ w W) w:=by
 intro l J W hW hJ hY hJ0;have hBW:=hBn.below hW hBn.lt;have hsW:=hW.size;have c0:=hBW.cell 0 rfl;have bd:=RowB.bounds hR;have HR:Hid (RowIV D w (.slice a2 L.length c2) L):=hR;have HD:Hid (∀ g,D g→g<n₀):=hD;have hW0:Below n₀ w W:=hW.mono hnw;clear hR hD;refine callsIn_of_wp Tryz.func129 rfl trivial ?_ rfl;simp only [Tryz.ntmps129,List.size_toArray,List.length_cons,List.length_nil,Nat.reduceAdd,Nat.reduceSub,Array.replicate_succ,Array.replicate_zero,List.push_toArray,List.append_toArray,List.nil_append,List.cons_append]
 gi_wp2
 clear c0
 gi_loopw [7] (fun iv wr=>∃ (i:Nat),iv=.int .i64 i∧i≤L.length∧J (L.take i) wr∧Below n₀ w wr) (fun iv _=>L.length - (intOf iv).toNat)
 case atStart=>exact ⟨0,rfl,Nat.zero_le _,by simpa using hJ0,hW0⟩
 case round=>
  obtain ⟨i,rfl,hil,hJs,hbr⟩:=hrel;by_cases hlt:i<L.length
  · obtain ⟨g1,o1,rfl,hg1,hc1⟩:=RowB.ptr HR.out (by omega)
    have hc:=(hc1 i hlt).agree (D:=fun g=>g<n₀) (fun g hg=>hbr.block g hg) (HD.out g1 hg1);obtain ⟨x,hx⟩:∃ x,L.getD i iv0=x:=⟨_,rfl⟩;rw [hx] at hc;have HX:Hid (L.take i++[x]=L.take (i+1)):=by unfold Hid;rw [← hx];exact pre_step hlt
    obtain ⟨E0,E1,E2,E3,E4,E5⟩:=hc;have hkx:=below_alloc wr (.cells #[.int .u8 x.k,.bool x.b,.slice x.a1 x.n1 x.c1,.slice x.a2 x.n2 x.c2,.int .i32 x.c,.slice x.a3 x.n3 x.c3] 68);have X1:=boxA_new wr #[.int .u8 x.k,.bool x.b,.slice x.a1 x.n1 x.c1,.slice x.a2 x.n2 x.c2,.int .i32 x.c,.slice x.a3 x.n3 x.c3] 68;have m0:=X1.cell 0 rfl;have m1:=X1.cell 1 rfl;have m2:=X1.cell 2 rfl;have m3:=X1.cell 3 rfl;have m4:=X1.cell 4 rfl;have m5:=X1.cell 5 rfl;have sz:=hbr.size;have hb3:Below n₀ w (wr.alloc (.cells #[.int .u8 x.k,.bool x.b,.slice x.a1 x.n1 x.c1,.slice x.a2 x.n2 x.c2,.int .i32 x.c,.slice x.a3 x.n3 x.c3] 68)):=hbr.trans (hkx.mono (by omega));have hJ3:=hJ (L.take i) wr _ none hJs (World.grownBy_alloc wr (.cells #[.int .u8 x.k,.bool x.b,.slice x.a1 x.n1 x.c1,.slice x.a2 x.n2 x.c2,.int .i32 x.c,.slice x.a3 x.n3 x.c3] 68) none) (fun r e=>by cases e);obtain ⟨fn,tmps,assign,body,hy,hRd⟩:=hY (L.take i) x _ hJ3 ⟨by rw [HX.out];exact List.take_prefix _ _,hb3⟩;dsimp only [IV.encs] at hy;clear hc1 hx hkx X1 hJs hJ3
    gi_wp2
    refine ⟨fun _=>by omega,hRd.mono ?_⟩;rintro e W4 ⟨rfl,hJ4,hk4⟩;have hb4:=hb3.trans hk4.below
    gi_wp2
    go_roundw
    case rel=>exact ⟨i+1,by go_num,by omega,by rw [← HX.out];exact hJ4,hb4⟩
    case measure=>simp [intOf];omega
  · obtain rfl:i=L.length:=by omega
    have HJ:Hid (J L wr):=by unfold Hid;rw [List.take_length] at hJs;exact hJs
    gi_wp2
    go_end0
    exact ⟨⟨_,rfl⟩,L,⟨rfl,hbr⟩,HJ.out⟩
end
section
open Go.RowKit
def IsC (w:World) (g:Nat):Prop:=∃ o:Obj,w.heap[g]? = some o∧o.isCells=true
theorem isC_of {w:World} {g o:Nat} {v:Value} (h:w.cell? ⟨g,o,none⟩=some v):IsC w g:=by
 unfold World.cell? at h;unfold IsC
 cases ho:w.heap[g]? with
 | none=>simp [ho] at h
 | some b=>refine ⟨b,rfl,?_⟩;cases b <;> simp_all [Obj.isCells]
theorem RdL.cells {D:Nat→Prop} {w:World} {v:Value} {xs:List Int} (h:RdL D w v xs):RdL (fun g=>D g∧IsC w g) w v xs:=by
 obtain ⟨h0,a,cap,rfl,h1,h2,h3,h4⟩:=h;refine ⟨h0,a,cap,rfl,h1,h2,h3,?_⟩;by_cases hz:xs.length=0
 · exact Or.inl hz
 rcases h4 with h4 | ⟨b,off,rfl,hlt,hc⟩
 · exact Or.inl h4
 · exact Or.inr ⟨b,off,rfl,⟨hlt,isC_of (hc 0 (by omega))⟩,hc⟩
theorem RdN.cells {D:Nat→Prop} {w:World} {v:Value} {xs:List Int} (h:RdN D w v xs):RdN (fun g=>D g∧IsC w g) w v xs:=by
 obtain ⟨h0,a,cap,rfl,h1,h2,h3,h4⟩:=h;refine ⟨h0,a,cap,rfl,h1,h2,h3,?_⟩;by_cases hz:xs.length=0
 · exact Or.inl hz
 rcases h4 with h4 | ⟨b,off,rfl,hlt,hc⟩
 · exact Or.inl h4
 · exact Or.inr ⟨b,off,rfl,⟨hlt,isC_of (hc 0 (by omega))⟩,hc⟩
theorem RowB.cells {D:Nat→Prop} {w:World} {n:Nat} {v:Value} {C C':Nat→Nat→Nat→Prop} (h:RowB D n v C) (hC:∀ g o j,j<n→C g o j→IsC w g∧C' g o j):RowB (fun g=>D g∧IsC w g) n v C':=by
 obtain ⟨a,cap,rfl,h1,h2,h3,h4⟩:=h;refine ⟨a,cap,rfl,h1,h2,h3,?_⟩;by_cases hz:n=0
 · exact Or.inl hz
 rcases h4 with h4 | ⟨g,o,rfl,hlt,hc⟩
 · exact Or.inl h4
 · exact Or.inr ⟨g,o,rfl,⟨hlt,(hC g o 0 (by omega) (hc 0 (by omega))).1⟩,fun j hj=>(hC g o j hj (hc j hj)).2⟩
theorem ItV.cells {P P':Value→Value→Tr→Prop} {D:Nat→Prop} {w:World} {a1 a2 a3:Option Addr} {c1 c2 c3:Nat} {t:Tr} (h:ItV P D w a1 c1 a2 c2 a3 c3 t) (hP:∀ v1 v2 t,P v1 v2 t→P' v1 v2 t):ItV P' (fun g=>D g∧IsC w g) w a1 c1 a2 c2 a3 c3 t:=
 ⟨h.rn.cells,h.rd.cells,h.bx.cells (fun g o j hj ⟨x1,n1,y1,x2,n2,y2,e1,e2,e3⟩=>⟨isC_of e1,x1,n1,y1,x2,n2,y2,e1,e2,hP _ _ _ e3⟩)⟩
theorem ArV.cells {D:Nat→Prop} {w:World}:∀ (f:Nat) (v1 v2:Value) (t:Tr),ArV f D w v1 v2 t→ArV f (fun g=>D g∧IsC w g) w v1 v2 t
 | 0,_,_,_,h=>h.elim
 | f+1,v1,v2,t,h=>⟨h.1.cells,h.2.cells (fun g o j hj ⟨a1,c1,a2,c2,a3,c3,hcs,hv⟩=>⟨isC_of hcs.1,a1,c1,a2,c2,a3,c3,hcs,hv.cells (fun u1 u2 s hs=>ArV.cells f u1 u2 s hs)⟩)⟩
theorem elI_cells {f:Nat} {l:List Tr} {D:Nat→Prop} {w:World} {c:Nat→Option Value} {j:Nat} (h:ElI f l D w c j):ElI f l (fun g=>D g∧IsC w g) w c j:=by
 obtain ⟨a1,c1,a2,c2,a3,c3,hcs,hv⟩:=h;exact ⟨a1,c1,a2,c2,a3,c3,hcs,hv.cells (fun u1 u2 s hs=>ArV.cells f u1 u2 s hs)⟩
theorem row_kept {A B:World} {Z e size n:Nat} {v:Value} {xs:List Value} {row:Option Nat} (b2:A.ownsRow Z e size v n xs) (hg:A.grownBy B row) (hrow:∀ k,row=some k→∃ o:Obj,A.heap[k]? = some o∧o.isCells=false):B.ownsRow Z e size v n xs:=by
 refine b2.kept hg ?_;by_cases hv:v.ownBlock=none
 · exact Or.inl hv
 · refine Or.inr (fun e => ?_)
   obtain ⟨_,h | ⟨g,cap,cur,rfl,_,hh,_⟩⟩:=b2
   · rw [h.1] at hv;exact hv rfl
   · obtain ⟨o,ho,hc⟩:=hrow g e.symm
     rw [hh] at ho
     cases ho
     cases hc
/-- A row of items stays where blocks that are no cells are turned. -/
theorem rowI_grown {A B:World} {e f Z n:Nat} {l:List Tr} {v:Value} {row:Option Nat} (h:RowOf e 6 (ElI f l) Z A v n) (hg:A.grownBy B row) (hrow:∀ k,row=some k→∃ o:Obj,A.heap[k]? = some o∧o.isCells=false):RowOf e 6 (ElI f l) Z B v n:=by
 obtain ⟨xs,ho,he⟩:=h;refine ⟨xs,row_kept ho hg hrow,fun j hj=>elI_ok f l _ _ _ _ _ _ _ ?_ ?_ (fun _ _=>rfl) (elI_cells (he j hj))⟩
 · rintro g ⟨⟨g1,g2,g3⟩,_⟩
   exact ⟨g1,Nat.lt_of_lt_of_le g2 hg.size,g3⟩
 · rintro g ⟨⟨g1,g2,g3⟩,o,ho',hc⟩
   refine hg.block g g2 (fun e => ?_);obtain ⟨o2,h2,h3⟩:=hrow g e.symm;rw [ho'] at h2
   cases h2
   rw [hc] at h3
   cases h3
theorem boxA_kept {A B:World} {R ty:Nat} {xs:Array Value} {row:Option Nat} (h:BoxA A R ty xs) (hg:A.grownBy B row) (hrow:∀ k,row=some k→∃ o:Obj,A.heap[k]? = some o∧o.isCells=false):BoxA B R ty xs:=
 boxA_grown h hg (fun e=>by
  obtain ⟨o,ho,hc⟩:=hrow R e;unfold BoxA at h;rw [h] at ho
  cases ho
  cases hc)
theorem row_isC {W:World} {base e size n:Nat} {v:Value} {xs:List Value} (h:W.ownsRow base e size v n xs):∀ j,v.ownBlock=some j→∃ o:Obj,W.heap[j]? = some o∧o.isCells=true:=by
 intro j hj;obtain ⟨_,h | ⟨g,cap,cur,rfl,_,hh,_⟩⟩:=h
 · rw [h.1] at hj;cases hj
 · cases hj
   exact ⟨_,hh,rfl⟩
theorem boxA_p1 {W:World} {B ty:Nat} {u:Value} (h:BoxA W B ty #[u]) (v:Value):BoxA (W.setCell ⟨B,0,none⟩ v) B ty #[v]:=by
 unfold BoxA at h ⊢;simp [World.setCell,Array.getElem?_modify,h]
theorem boxA_o {w:World} {k ty:Nat} {xs:Array Value} {p:Addr} (h:BoxA w k ty xs) (hp:p.block≠k) (v:Value):BoxA (w.setCell p v) k ty xs:=by
 unfold BoxA at h ⊢;simp [World.setCell,Array.getElem?_modify,hp,h]
/-- append onto a slice of the call's own, as one step of a region that draws, inside a fence. -/
theorem stepIn_append_at {F:Fence} {N:Nat} {P:Program} {ops:Array Oper} {o:Oper} {a:Act} {w:World} {K:Act→World→Prop} {Q:Exit→Act→World→Prop} {E:Prop} (hg:o.guard=none) (s x:Operand) (t:TypeId)
    (ho:o.op=.call { callee:=.builtin .append,args:=#[s,x],argTypes:=#[t,t] })
    (base:Nat) (e:TypeId) (i:TypeInfo) (z:Value) (size bytes:Nat) (ht:P.underlying t=some (.slice e)) (hi:P.info? e=some i) (hz:i.zero=some z)
    (hsize:i.size=size) (hby:i.bytes=bytes) (hzs:z.cells.size=size) (hsz:0<size)
    (v:Value) (n:Nat) (xs:List Value) (hs:a.eval s=v) (hown:w.ownsRow base e size v n xs)
    (ad:Addr) (m c:Nat) (news:List Value) (hx:a.eval x=.slice (some ad) m c) (hl:news.length=m*size) (hnews:∀ j u,news[j]? = some u→w.cell? (ad.add j)=some u) (h1:∀ u∈news,u.oneCell'=true)
    (h63:n+m≤maxLen) (hbytes:(n+m)*bytes≤140737488355328) (hbase:base≤w.heap.size)
    (hK:∀ v' w',w'.ownsRow base e size v' (n+m) (xs++news)→w.grownBy w' v.ownBlock→(v'.ownBlock=v.ownBlock∨v'.ownBlock=some w.heap.size)→K (a.put o.dst v') w') :
    if Region.wanted o (yielded ops a.tmps)=true then Oper.wpIn F N P o a w K Q else E:=by
 rw [if_pos (by simp [Region.wanted,hg])];obtain ⟨v',w',hr,h2,h3,h4,h5⟩:=run_append_own_at (P:=P) w base t o.type e i z size bytes ht hi hz hsize hby hzs hsz v n xs hown ad m c news hl hnews h1 h63 hbytes hbase;unfold Oper.wpIn;refine ⟨?_,?_⟩
 · simp [Oper.about,ho,resolve,Target.leads,Sem.run_pure]
 · rw [Oper.semAt_plain F _ _ (by rw [ho];intro c hc';cases hc')]
   unfold execOp;simp only [ho,resolve,invoke,builtin,Sem.run_bind,Sem.run_pure,Result.andThen_ok,List.map_toArray,List.map_cons,List.map_nil,hs,hx,hr];exact hK v' w' h2 h3 h5
end
section
open Go.RowKit Go.Shelf
attribute [local go_sem] Oper.semAt_some
def eachC_ops:Array Oper:=#[
 { dst:=some 9,op:=Op.load 22 (Operand.tmp 5),type:=22,pos:= "array.go:135",after:=#[],guard:=none },
 { dst:=some 10,op:=Op.load 53 (Operand.tmp 2),type:=53,pos:= "array.go:135",after:=#[],guard:=none },
 { dst:=some 11,op:=Op.load 68 (Operand.tmp 6),type:=68,pos:= "array.go:135",after:=#[],guard:=none },
 { dst:=some 12,op:=Op.call { callee:=Callee.value (Operand.tmp 10),args:=#[Operand.tmp 11],argTypes:=#[68] },type:=68,pos:= "array.go:135",after:=#[{ on:=1,ground:=Ground.data },{ on:=2,ground:=Ground.data }],guard:=none },
 { dst:=some 13,op:=Op.buildSlice 22 1 #[(0,Operand.tmp 12)],type:=22,pos:= "array.go:135",after:=#[{ on:=3,ground:=Ground.data }],guard:=none },
 { dst:=some 14,op:=Op.call { callee:=Callee.builtin Builtin.append,args:=#[Operand.tmp 9,Operand.tmp 13],argTypes:=#[22,22] },type:=22,pos:= "array.go:135",after:=#[{ on:=0,ground:=Ground.data },{ on:=4,ground:=Ground.data },{ on:=3,ground:=Ground.chain }],guard:=none },
 { dst:=none,op:=Op.store 22 (Operand.tmp 5) (Operand.tmp 14),type:=0,pos:= "array.go:135",after:=#[{ on:=5,ground:=Ground.data },{ on:=5,ground:=Ground.chain },{ on:=0,ground:=Ground.phase },{ on:=1,ground:=Ground.phase },{ on:=2,ground:=Ground.phase },{ on:=3,ground:=Ground.phase },{ on:=4,ground:=Ground.phase },{ on:=5,ground:=Ground.phase }],guard:=none }]
theorem info_item4C:(Tryz.prog.info? 68).map (fun i=>(i.zero,i.size,i.bytes))=some (some (.agg #[.int .u8 0,.bool false,.slice none 0 0,.slice none 0 0,.int .i32 0,.slice none 0 0]),6,96):=by kernel_rfl
section
variable {Q:Exit→Act→World→Prop} {l N f i d3 Z Wk O Bx:Nat} {b3:Option Addr} {W wa:World} {x y:IV} {t:Tr} {xs:List Value} {t0 t1 t2 t3 t4 t5 t6 t7 t8 t9 t10 t11 t12 t13 t14 t15:Value} {r:List Value} {ds:List Deferred}
theorem eachC_s51 (HO:W.ownsRow Z 68 6 (.slice b3 i d3) i xs) (BO:BoxA W O 22 #[.slice b3 i d3]) (BW:BoxA W Wk 53 #[.func (.func 19) #[] #[]]) (BX:BoxA W Bx 68 #[.int .u8 x.k,.bool x.b,.slice x.a1 x.n1 x.c1,.slice x.a2 x.n2 x.c2,.int .i32 x.c,.slice x.a3 x.n3 x.c3]) (lO:O<Z) (lZ:Z≤W.heap.size) (hi:(i+1)*96≤140737488355328) (hQ:∀ (y:IV) (wa:World) (b4:Option Addr) (d4:Nat) (w2:World),IsIt f (Fr W.heap.size wa.heap.size) wa y t→Below W.heap.size W wa→w2.ownsRow Z 68 6 (.slice b4 (i+1) d4) (i+1) (xs++[.int .u8 y.k,.bool y.b,.slice y.a1 y.n1 y.c1,.slice y.a2 y.n2 y.c2,.int .i32 y.c,.slice y.a3 y.n3 y.c3])→(wa.alloc (.cells #[.int .u8 y.k,.bool y.b,.slice y.a1 y.n1 y.c1,.slice y.a2 y.n2 y.c2,.int .i32 y.c,.slice y.a3 y.n3 y.c3] 68)).grownBy w2 (Value.slice b3 i d3).ownBlock→((Value.slice b4 (i+1) d4).ownBlock=(Value.slice b3 i d3).ownBlock∨(Value.slice b4 (i+1) d4).ownBlock=some (wa.alloc (.cells #[.int .u8 y.k,.bool y.b,.slice y.a1 y.n1 y.c1,.slice y.a2 y.n2 y.c2,.int .i32 y.c,.slice y.a3 y.n3 y.c3] 68)).heap.size)→Q .normal { tmps:=(t0 :: t1 :: (.pointer (some ⟨Wk,0,none⟩)) :: t3 :: t4 :: (.pointer (some ⟨O,0,none⟩)) :: (.pointer (some ⟨Bx,0,none⟩)) :: t7 :: t8 :: (.slice b3 i d3) :: (.func (.func 19) #[] #[]) :: (.agg #[.int .u8 x.k,.bool x.b,.slice x.a1 x.n1 x.c1,.slice x.a2 x.n2 x.c2,.int .i32 x.c,.slice x.a3 x.n3 x.c3]) :: (.agg #[.int .u8 y.k,.bool y.b,.slice y.a1 y.n1 y.c1,.slice y.a2 y.n2 y.c2,.int .i32 y.c,.slice y.a3 y.n3 y.c3]) :: (.slice (some ⟨wa.heap.size,0,none⟩) 1 1) :: (.slice b4 (i+1) d4) :: t15 :: r).toArray,defers:=ds } (w2.setCell ⟨O,0,none⟩ (.slice b4 (i+1) d4))) (hI:IsIt f (Fr W.heap.size wa.heap.size) wa y t) (k:Below W.heap.size W wa) :
    wpAnyIn (Fence.wide.inRound l) N Tryz.prog .any eachC_ops Q 2 #[true,true,true,true,true,false,false] { tmps:=(t0 :: t1 :: (.pointer (some ⟨Wk,0,none⟩)) :: t3 :: t4 :: (.pointer (some ⟨O,0,none⟩)) :: (.pointer (some ⟨Bx,0,none⟩)) :: t7 :: t8 :: (.slice b3 i d3) :: (.func (.func 19) #[] #[]) :: (.agg #[.int .u8 x.k,.bool x.b,.slice x.a1 x.n1 x.c1,.slice x.a2 x.n2 x.c2,.int .i32 x.c,.slice x.a3 x.n3 x.c3]) :: (.agg #[.int .u8 y.k,.bool y.b,.slice y.a1 y.n1 y.c1,.slice y.a2 y.n2 y.c2,.int .i32 y.c,.slice y.a3 y.n3 y.c3]) :: (.slice (some ⟨wa.heap.size,0,none⟩) 1 1) :: t14 :: t15 :: r).toArray,defers:=ds } (wa.alloc (.cells #[.int .u8 y.k,.bool y.b,.slice y.a1 y.n1 y.c1,.slice y.a2 y.n2 y.c2,.int .i32 y.c,.slice y.a3 y.n3 y.c3] 68)):=by
 obtain ⟨i0,hi0,hz0,hz1,hz2⟩:=info_parts info_item4C;have sk:=k.size;refine wpAnyIn_ready (rs:=[5]) (by kernel_rfl) (by simp) ?_;refine AllReadyIn.cons (o:={ dst:=some 14,op:=Op.call { callee:=Callee.builtin Builtin.append,args:=#[Operand.tmp 9,Operand.tmp 13],argTypes:=#[22,22] },type:=22,pos:= "array.go:135",after:=#[{ on:=0,ground:=Ground.data },{ on:=4,ground:=Ground.data },{ on:=3,ground:=Ground.chain }],guard:=none }) rfl (fun K hK => ?_) ?_
 · refine stepIn_append_at rfl _ _ 22 rfl Z 68 i0 (.agg #[.int .u8 0,.bool false,.slice none 0 0,.slice none 0 0,.int .i32 0,.slice none 0 0]) 6 96 Tryz.underlying22 hi0 hz0 hz1 hz2 rfl (by decide) _ i xs rfl (row_below HO k (Nat.le_refl _) |>.alloc _) ⟨wa.heap.size,0,none⟩ 1 1 [.int .u8 y.k,.bool y.b,.slice y.a1 y.n1 y.c1,.slice y.a2 y.n2 y.c2,.int .i32 y.c,.slice y.a3 y.n3 y.c3] rfl rfl (cells_new wa #[.int .u8 y.k,.bool y.b,.slice y.a1 y.n1 y.c1,.slice y.a2 y.n2 y.c2,.int .i32 y.c,.slice y.a3 y.n3 y.c3] _) (by intro u hu;simp at hu;rcases hu with rfl | rfl | rfl | rfl | rfl | rfl <;> rfl) (by unfold maxLen;omega) (by omega) (by simp;omega) ?_
   intro v2 w2 hr hgr hvo;obtain ⟨b4,d4,rfl⟩:=row_form3 hr;have HQ:Hid _:=hQ y wa b4 d4 w2 hI k hr hgr hvo;have BN:=boxA_grown ((BO.below k (by omega)).below (below_alloc wa (.cells #[.int .u8 y.k,.bool y.b,.slice y.a1 y.n1 y.c1,.slice y.a2 y.n2 y.c2,.int .i32 y.c,.slice y.a3 y.n3 y.c3] 68)) (by omega)) hgr (fun h=>by have:=(row_own HO _ h).1;omega);have yN:=BN.cell 0 rfl;have fN:=BN.frozen 0;clear hQ hI hr hgr hvo HO BO BW BX;simp only [Act.put,List.setIfInBounds_toArray,List.set_cons_zero,List.set_cons_succ];refine hK _ _ ?_;clear hK K;refine wpAnyIn_ready (rs:=[6]) (by kernel_rfl) (by simp) ?_;refine AllReadyIn.cons (o:={ dst:=none,op:=Op.store 22 (Operand.tmp 5) (Operand.tmp 14),type:=0,pos:= "array.go:135",after:=#[{ on:=5,ground:=Ground.data },{ on:=5,ground:=Ground.chain },{ on:=0,ground:=Ground.phase },{ on:=1,ground:=Ground.phase },{ on:=2,ground:=Ground.phase },{ on:=3,ground:=Ground.phase },{ on:=4,ground:=Ground.phase },{ on:=5,ground:=Ground.phase }],guard:=none }) rfl (fun K hK => ?_) ?_
   · go_simp
     refine hK _ _ ?_;exact wpAnyIn_done (by kernel_rfl) HQ.out _
   exact AllReadyIn.nil
 exact AllReadyIn.nil
theorem eachC_s50 (HO:W.ownsRow Z 68 6 (.slice b3 i d3) i xs) (BO:BoxA W O 22 #[.slice b3 i d3]) (BW:BoxA W Wk 53 #[.func (.func 19) #[] #[]]) (BX:BoxA W Bx 68 #[.int .u8 x.k,.bool x.b,.slice x.a1 x.n1 x.c1,.slice x.a2 x.n2 x.c2,.int .i32 x.c,.slice x.a3 x.n3 x.c3]) (lO:O<Z) (lZ:Z≤W.heap.size) (hi:(i+1)*96≤140737488355328) (hQ:∀ (y:IV) (wa:World) (b4:Option Addr) (d4:Nat) (w2:World),IsIt f (Fr W.heap.size wa.heap.size) wa y t→Below W.heap.size W wa→w2.ownsRow Z 68 6 (.slice b4 (i+1) d4) (i+1) (xs++[.int .u8 y.k,.bool y.b,.slice y.a1 y.n1 y.c1,.slice y.a2 y.n2 y.c2,.int .i32 y.c,.slice y.a3 y.n3 y.c3])→(wa.alloc (.cells #[.int .u8 y.k,.bool y.b,.slice y.a1 y.n1 y.c1,.slice y.a2 y.n2 y.c2,.int .i32 y.c,.slice y.a3 y.n3 y.c3] 68)).grownBy w2 (Value.slice b3 i d3).ownBlock→((Value.slice b4 (i+1) d4).ownBlock=(Value.slice b3 i d3).ownBlock∨(Value.slice b4 (i+1) d4).ownBlock=some (wa.alloc (.cells #[.int .u8 y.k,.bool y.b,.slice y.a1 y.n1 y.c1,.slice y.a2 y.n2 y.c2,.int .i32 y.c,.slice y.a3 y.n3 y.c3] 68)).heap.size)→Q .normal { tmps:=(t0 :: t1 :: (.pointer (some ⟨Wk,0,none⟩)) :: t3 :: t4 :: (.pointer (some ⟨O,0,none⟩)) :: (.pointer (some ⟨Bx,0,none⟩)) :: t7 :: t8 :: (.slice b3 i d3) :: (.func (.func 19) #[] #[]) :: (.agg #[.int .u8 x.k,.bool x.b,.slice x.a1 x.n1 x.c1,.slice x.a2 x.n2 x.c2,.int .i32 x.c,.slice x.a3 x.n3 x.c3]) :: (.agg #[.int .u8 y.k,.bool y.b,.slice y.a1 y.n1 y.c1,.slice y.a2 y.n2 y.c2,.int .i32 y.c,.slice y.a3 y.n3 y.c3]) :: (.slice (some ⟨wa.heap.size,0,none⟩) 1 1) :: (.slice b4 (i+1) d4) :: t15 :: r).toArray,defers:=ds } (w2.setCell ⟨O,0,none⟩ (.slice b4 (i+1) d4))) (hI:IsIt f (Fr W.heap.size wa.heap.size) wa y t) (k:Below W.heap.size W wa) :
    wpAnyIn (Fence.wide.inRound l) N Tryz.prog .any eachC_ops Q 3 #[false,true,true,true,true,false,false] { tmps:=(t0 :: t1 :: (.pointer (some ⟨Wk,0,none⟩)) :: t3 :: t4 :: (.pointer (some ⟨O,0,none⟩)) :: (.pointer (some ⟨Bx,0,none⟩)) :: t7 :: t8 :: t9 :: (.func (.func 19) #[] #[]) :: (.agg #[.int .u8 x.k,.bool x.b,.slice x.a1 x.n1 x.c1,.slice x.a2 x.n2 x.c2,.int .i32 x.c,.slice x.a3 x.n3 x.c3]) :: (.agg #[.int .u8 y.k,.bool y.b,.slice y.a1 y.n1 y.c1,.slice y.a2 y.n2 y.c2,.int .i32 y.c,.slice y.a3 y.n3 y.c3]) :: (.slice (some ⟨wa.heap.size,0,none⟩) 1 1) :: t14 :: t15 :: r).toArray,defers:=ds } (wa.alloc (.cells #[.int .u8 y.k,.bool y.b,.slice y.a1 y.n1 y.c1,.slice y.a2 y.n2 y.c2,.int .i32 y.c,.slice y.a3 y.n3 y.c3] 68)):=by
 refine wpAnyIn_ready (rs:=[0]) (by kernel_rfl) (by simp) ?_;refine AllReadyIn.cons (o:={ dst:=some 9,op:=Op.load 22 (Operand.tmp 5),type:=22,pos:= "array.go:135",after:=#[],guard:=none }) rfl (fun K hK => ?_) ?_
 · have cO:=(show BoxA _ O 22 #[.slice b3 i d3] from ((BO.below k BO.lt).below (below_alloc wa (.cells #[.int .u8 y.k,.bool y.b,.slice y.a1 y.n1 y.c1,.slice y.a2 y.n2 y.c2,.int .i32 y.c,.slice y.a3 y.n3 y.c3] 68)) (by have:=BO.lt;have:=k.size;omega))).cell 0 rfl
   go_simp
   refine hK _ _ ?_;exact eachC_s51 HO BO BW BX lO lZ hi hQ hI k
 exact AllReadyIn.nil
theorem eachC_s41 (HO:W.ownsRow Z 68 6 (.slice b3 i d3) i xs) (BO:BoxA W O 22 #[.slice b3 i d3]) (BW:BoxA W Wk 53 #[.func (.func 19) #[] #[]]) (BX:BoxA W Bx 68 #[.int .u8 x.k,.bool x.b,.slice x.a1 x.n1 x.c1,.slice x.a2 x.n2 x.c2,.int .i32 x.c,.slice x.a3 x.n3 x.c3]) (lO:O<Z) (lZ:Z≤W.heap.size) (hi:(i+1)*96≤140737488355328) (hQ:∀ (y:IV) (wa:World) (b4:Option Addr) (d4:Nat) (w2:World),IsIt f (Fr W.heap.size wa.heap.size) wa y t→Below W.heap.size W wa→w2.ownsRow Z 68 6 (.slice b4 (i+1) d4) (i+1) (xs++[.int .u8 y.k,.bool y.b,.slice y.a1 y.n1 y.c1,.slice y.a2 y.n2 y.c2,.int .i32 y.c,.slice y.a3 y.n3 y.c3])→(wa.alloc (.cells #[.int .u8 y.k,.bool y.b,.slice y.a1 y.n1 y.c1,.slice y.a2 y.n2 y.c2,.int .i32 y.c,.slice y.a3 y.n3 y.c3] 68)).grownBy w2 (Value.slice b3 i d3).ownBlock→((Value.slice b4 (i+1) d4).ownBlock=(Value.slice b3 i d3).ownBlock∨(Value.slice b4 (i+1) d4).ownBlock=some (wa.alloc (.cells #[.int .u8 y.k,.bool y.b,.slice y.a1 y.n1 y.c1,.slice y.a2 y.n2 y.c2,.int .i32 y.c,.slice y.a3 y.n3 y.c3] 68)).heap.size)→Q .normal { tmps:=(t0 :: t1 :: (.pointer (some ⟨Wk,0,none⟩)) :: t3 :: t4 :: (.pointer (some ⟨O,0,none⟩)) :: (.pointer (some ⟨Bx,0,none⟩)) :: t7 :: t8 :: (.slice b3 i d3) :: (.func (.func 19) #[] #[]) :: (.agg #[.int .u8 x.k,.bool x.b,.slice x.a1 x.n1 x.c1,.slice x.a2 x.n2 x.c2,.int .i32 x.c,.slice x.a3 x.n3 x.c3]) :: (.agg #[.int .u8 y.k,.bool y.b,.slice y.a1 y.n1 y.c1,.slice y.a2 y.n2 y.c2,.int .i32 y.c,.slice y.a3 y.n3 y.c3]) :: (.slice (some ⟨wa.heap.size,0,none⟩) 1 1) :: (.slice b4 (i+1) d4) :: t15 :: r).toArray,defers:=ds } (w2.setCell ⟨O,0,none⟩ (.slice b4 (i+1) d4))) (hI:IsIt f (Fr W.heap.size wa.heap.size) wa y t) (k:Below W.heap.size W wa) :
    wpAnyIn (Fence.wide.inRound l) N Tryz.prog .any eachC_ops Q 3 #[true,true,true,true,false,false,false] { tmps:=(t0 :: t1 :: (.pointer (some ⟨Wk,0,none⟩)) :: t3 :: t4 :: (.pointer (some ⟨O,0,none⟩)) :: (.pointer (some ⟨Bx,0,none⟩)) :: t7 :: t8 :: (.slice b3 i d3) :: (.func (.func 19) #[] #[]) :: (.agg #[.int .u8 x.k,.bool x.b,.slice x.a1 x.n1 x.c1,.slice x.a2 x.n2 x.c2,.int .i32 x.c,.slice x.a3 x.n3 x.c3]) :: (.agg #[.int .u8 y.k,.bool y.b,.slice y.a1 y.n1 y.c1,.slice y.a2 y.n2 y.c2,.int .i32 y.c,.slice y.a3 y.n3 y.c3]) :: t13 :: t14 :: t15 :: r).toArray,defers:=ds } wa:=by
 have sk:=k.size;refine wpAnyIn_ready (rs:=[4]) (by kernel_rfl) (by simp) ?_;refine AllReadyIn.cons (o:={ dst:=some 13,op:=Op.buildSlice 22 1 #[(0,Operand.tmp 12)],type:=22,pos:= "array.go:135",after:=#[{ on:=3,ground:=Ground.data }],guard:=none }) rfl (fun K hK => ?_) ?_
 · go_simp
   refine hK _ _ ?_;exact eachC_s51 HO BO BW BX lO lZ hi hQ hI k
 exact AllReadyIn.nil
theorem eachC_s40 (HO:W.ownsRow Z 68 6 (.slice b3 i d3) i xs) (BO:BoxA W O 22 #[.slice b3 i d3]) (BW:BoxA W Wk 53 #[.func (.func 19) #[] #[]]) (BX:BoxA W Bx 68 #[.int .u8 x.k,.bool x.b,.slice x.a1 x.n1 x.c1,.slice x.a2 x.n2 x.c2,.int .i32 x.c,.slice x.a3 x.n3 x.c3]) (lO:O<Z) (lZ:Z≤W.heap.size) (hi:(i+1)*96≤140737488355328) (hQ:∀ (y:IV) (wa:World) (b4:Option Addr) (d4:Nat) (w2:World),IsIt f (Fr W.heap.size wa.heap.size) wa y t→Below W.heap.size W wa→w2.ownsRow Z 68 6 (.slice b4 (i+1) d4) (i+1) (xs++[.int .u8 y.k,.bool y.b,.slice y.a1 y.n1 y.c1,.slice y.a2 y.n2 y.c2,.int .i32 y.c,.slice y.a3 y.n3 y.c3])→(wa.alloc (.cells #[.int .u8 y.k,.bool y.b,.slice y.a1 y.n1 y.c1,.slice y.a2 y.n2 y.c2,.int .i32 y.c,.slice y.a3 y.n3 y.c3] 68)).grownBy w2 (Value.slice b3 i d3).ownBlock→((Value.slice b4 (i+1) d4).ownBlock=(Value.slice b3 i d3).ownBlock∨(Value.slice b4 (i+1) d4).ownBlock=some (wa.alloc (.cells #[.int .u8 y.k,.bool y.b,.slice y.a1 y.n1 y.c1,.slice y.a2 y.n2 y.c2,.int .i32 y.c,.slice y.a3 y.n3 y.c3] 68)).heap.size)→Q .normal { tmps:=(t0 :: t1 :: (.pointer (some ⟨Wk,0,none⟩)) :: t3 :: t4 :: (.pointer (some ⟨O,0,none⟩)) :: (.pointer (some ⟨Bx,0,none⟩)) :: t7 :: t8 :: (.slice b3 i d3) :: (.func (.func 19) #[] #[]) :: (.agg #[.int .u8 x.k,.bool x.b,.slice x.a1 x.n1 x.c1,.slice x.a2 x.n2 x.c2,.int .i32 x.c,.slice x.a3 x.n3 x.c3]) :: (.agg #[.int .u8 y.k,.bool y.b,.slice y.a1 y.n1 y.c1,.slice y.a2 y.n2 y.c2,.int .i32 y.c,.slice y.a3 y.n3 y.c3]) :: (.slice (some ⟨wa.heap.size,0,none⟩) 1 1) :: (.slice b4 (i+1) d4) :: t15 :: r).toArray,defers:=ds } (w2.setCell ⟨O,0,none⟩ (.slice b4 (i+1) d4))) (hI:IsIt f (Fr W.heap.size wa.heap.size) wa y t) (k:Below W.heap.size W wa) :
    wpAnyIn (Fence.wide.inRound l) N Tryz.prog .any eachC_ops Q 4 #[false,true,true,true,false,false,false] { tmps:=(t0 :: t1 :: (.pointer (some ⟨Wk,0,none⟩)) :: t3 :: t4 :: (.pointer (some ⟨O,0,none⟩)) :: (.pointer (some ⟨Bx,0,none⟩)) :: t7 :: t8 :: t9 :: (.func (.func 19) #[] #[]) :: (.agg #[.int .u8 x.k,.bool x.b,.slice x.a1 x.n1 x.c1,.slice x.a2 x.n2 x.c2,.int .i32 x.c,.slice x.a3 x.n3 x.c3]) :: (.agg #[.int .u8 y.k,.bool y.b,.slice y.a1 y.n1 y.c1,.slice y.a2 y.n2 y.c2,.int .i32 y.c,.slice y.a3 y.n3 y.c3]) :: t13 :: t14 :: t15 :: r).toArray,defers:=ds } wa:=by
 have sk:=k.size;refine wpAnyIn_ready (rs:=[0,4]) (by kernel_rfl) (by simp) ?_;refine AllReadyIn.cons (o:={ dst:=some 9,op:=Op.load 22 (Operand.tmp 5),type:=22,pos:= "array.go:135",after:=#[],guard:=none }) rfl (fun K hK => ?_) ?_
 · have cO:=(show BoxA _ O 22 #[.slice b3 i d3] from (BO.below k BO.lt)).cell 0 rfl
   go_simp
   refine hK _ _ ?_;exact eachC_s41 HO BO BW BX lO lZ hi hQ hI k
 refine AllReadyIn.cons (o:={ dst:=some 13,op:=Op.buildSlice 22 1 #[(0,Operand.tmp 12)],type:=22,pos:= "array.go:135",after:=#[{ on:=3,ground:=Ground.data }],guard:=none }) rfl (fun K hK => ?_) ?_
 · go_simp
   refine hK _ _ ?_;exact eachC_s50 HO BO BW BX lO lZ hi hQ hI k
 exact AllReadyIn.nil
theorem eachC_s31 (HO:W.ownsRow Z 68 6 (.slice b3 i d3) i xs) (BO:BoxA W O 22 #[.slice b3 i d3]) (BW:BoxA W Wk 53 #[.func (.func 19) #[] #[]]) (BX:BoxA W Bx 68 #[.int .u8 x.k,.bool x.b,.slice x.a1 x.n1 x.c1,.slice x.a2 x.n2 x.c2,.int .i32 x.c,.slice x.a3 x.n3 x.c3]) (lO:O<Z) (lZ:Z≤W.heap.size) (hi:(i+1)*96≤140737488355328) (hQ:∀ (y:IV) (wa:World) (b4:Option Addr) (d4:Nat) (w2:World),IsIt f (Fr W.heap.size wa.heap.size) wa y t→Below W.heap.size W wa→w2.ownsRow Z 68 6 (.slice b4 (i+1) d4) (i+1) (xs++[.int .u8 y.k,.bool y.b,.slice y.a1 y.n1 y.c1,.slice y.a2 y.n2 y.c2,.int .i32 y.c,.slice y.a3 y.n3 y.c3])→(wa.alloc (.cells #[.int .u8 y.k,.bool y.b,.slice y.a1 y.n1 y.c1,.slice y.a2 y.n2 y.c2,.int .i32 y.c,.slice y.a3 y.n3 y.c3] 68)).grownBy w2 (Value.slice b3 i d3).ownBlock→((Value.slice b4 (i+1) d4).ownBlock=(Value.slice b3 i d3).ownBlock∨(Value.slice b4 (i+1) d4).ownBlock=some (wa.alloc (.cells #[.int .u8 y.k,.bool y.b,.slice y.a1 y.n1 y.c1,.slice y.a2 y.n2 y.c2,.int .i32 y.c,.slice y.a3 y.n3 y.c3] 68)).heap.size)→Q .normal { tmps:=(t0 :: t1 :: (.pointer (some ⟨Wk,0,none⟩)) :: t3 :: t4 :: (.pointer (some ⟨O,0,none⟩)) :: (.pointer (some ⟨Bx,0,none⟩)) :: t7 :: t8 :: (.slice b3 i d3) :: (.func (.func 19) #[] #[]) :: (.agg #[.int .u8 x.k,.bool x.b,.slice x.a1 x.n1 x.c1,.slice x.a2 x.n2 x.c2,.int .i32 x.c,.slice x.a3 x.n3 x.c3]) :: (.agg #[.int .u8 y.k,.bool y.b,.slice y.a1 y.n1 y.c1,.slice y.a2 y.n2 y.c2,.int .i32 y.c,.slice y.a3 y.n3 y.c3]) :: (.slice (some ⟨wa.heap.size,0,none⟩) 1 1) :: (.slice b4 (i+1) d4) :: t15 :: r).toArray,defers:=ds } (w2.setCell ⟨O,0,none⟩ (.slice b4 (i+1) d4))) (hc:∀ N,CallsIn (Fence.wide.inRound l) N Tryz.prog 19 #[.agg #[.int .u8 x.k,.bool x.b,.slice x.a1 x.n1 x.c1,.slice x.a2 x.n2 x.c2,.int .i32 x.c,.slice x.a3 x.n3 x.c3]] W fun e w2=>∃ y:IV,e=.returned (.agg #[.int .u8 y.k,.bool y.b,.slice y.a1 y.n1 y.c1,.slice y.a2 y.n2 y.c2,.int .i32 y.c,.slice y.a3 y.n3 y.c3])∧IsIt f (Fr W.heap.size w2.heap.size) w2 y t∧Below W.heap.size W w2) :
    wpAnyIn (Fence.wide.inRound l) N Tryz.prog .any eachC_ops Q 4 #[true,true,true,false,false,false,false] { tmps:=(t0 :: t1 :: (.pointer (some ⟨Wk,0,none⟩)) :: t3 :: t4 :: (.pointer (some ⟨O,0,none⟩)) :: (.pointer (some ⟨Bx,0,none⟩)) :: t7 :: t8 :: (.slice b3 i d3) :: (.func (.func 19) #[] #[]) :: (.agg #[.int .u8 x.k,.bool x.b,.slice x.a1 x.n1 x.c1,.slice x.a2 x.n2 x.c2,.int .i32 x.c,.slice x.a3 x.n3 x.c3]) :: t12 :: t13 :: t14 :: t15 :: r).toArray,defers:=ds } W:=by
 refine wpAnyIn_ready (rs:=[3]) (by kernel_rfl) (by simp) ?_;refine AllReadyIn.cons (o:={ dst:=some 12,op:=Op.call { callee:=Callee.value (Operand.tmp 10),args:=#[Operand.tmp 11],argTypes:=#[68] },type:=68,pos:= "array.go:135",after:=#[{ on:=1,ground:=Ground.data },{ on:=2,ground:=Ground.data }],guard:=none }) rfl (fun K hK => ?_) ?_
 · go_simp
   refine ⟨trivial,(fun h=>by cases h),(hc _).mono ?_⟩;rintro e wa ⟨y,rfl,hI,k⟩;go_simp
   refine hK _ _ ?_;exact eachC_s41 HO BO BW BX lO lZ hi hQ hI k
 exact AllReadyIn.nil
theorem eachC_s30 (HO:W.ownsRow Z 68 6 (.slice b3 i d3) i xs) (BO:BoxA W O 22 #[.slice b3 i d3]) (BW:BoxA W Wk 53 #[.func (.func 19) #[] #[]]) (BX:BoxA W Bx 68 #[.int .u8 x.k,.bool x.b,.slice x.a1 x.n1 x.c1,.slice x.a2 x.n2 x.c2,.int .i32 x.c,.slice x.a3 x.n3 x.c3]) (lO:O<Z) (lZ:Z≤W.heap.size) (hi:(i+1)*96≤140737488355328) (hQ:∀ (y:IV) (wa:World) (b4:Option Addr) (d4:Nat) (w2:World),IsIt f (Fr W.heap.size wa.heap.size) wa y t→Below W.heap.size W wa→w2.ownsRow Z 68 6 (.slice b4 (i+1) d4) (i+1) (xs++[.int .u8 y.k,.bool y.b,.slice y.a1 y.n1 y.c1,.slice y.a2 y.n2 y.c2,.int .i32 y.c,.slice y.a3 y.n3 y.c3])→(wa.alloc (.cells #[.int .u8 y.k,.bool y.b,.slice y.a1 y.n1 y.c1,.slice y.a2 y.n2 y.c2,.int .i32 y.c,.slice y.a3 y.n3 y.c3] 68)).grownBy w2 (Value.slice b3 i d3).ownBlock→((Value.slice b4 (i+1) d4).ownBlock=(Value.slice b3 i d3).ownBlock∨(Value.slice b4 (i+1) d4).ownBlock=some (wa.alloc (.cells #[.int .u8 y.k,.bool y.b,.slice y.a1 y.n1 y.c1,.slice y.a2 y.n2 y.c2,.int .i32 y.c,.slice y.a3 y.n3 y.c3] 68)).heap.size)→Q .normal { tmps:=(t0 :: t1 :: (.pointer (some ⟨Wk,0,none⟩)) :: t3 :: t4 :: (.pointer (some ⟨O,0,none⟩)) :: (.pointer (some ⟨Bx,0,none⟩)) :: t7 :: t8 :: (.slice b3 i d3) :: (.func (.func 19) #[] #[]) :: (.agg #[.int .u8 x.k,.bool x.b,.slice x.a1 x.n1 x.c1,.slice x.a2 x.n2 x.c2,.int .i32 x.c,.slice x.a3 x.n3 x.c3]) :: (.agg #[.int .u8 y.k,.bool y.b,.slice y.a1 y.n1 y.c1,.slice y.a2 y.n2 y.c2,.int .i32 y.c,.slice y.a3 y.n3 y.c3]) :: (.slice (some ⟨wa.heap.size,0,none⟩) 1 1) :: (.slice b4 (i+1) d4) :: t15 :: r).toArray,defers:=ds } (w2.setCell ⟨O,0,none⟩ (.slice b4 (i+1) d4))) (hc:∀ N,CallsIn (Fence.wide.inRound l) N Tryz.prog 19 #[.agg #[.int .u8 x.k,.bool x.b,.slice x.a1 x.n1 x.c1,.slice x.a2 x.n2 x.c2,.int .i32 x.c,.slice x.a3 x.n3 x.c3]] W fun e w2=>∃ y:IV,e=.returned (.agg #[.int .u8 y.k,.bool y.b,.slice y.a1 y.n1 y.c1,.slice y.a2 y.n2 y.c2,.int .i32 y.c,.slice y.a3 y.n3 y.c3])∧IsIt f (Fr W.heap.size w2.heap.size) w2 y t∧Below W.heap.size W w2) :
    wpAnyIn (Fence.wide.inRound l) N Tryz.prog .any eachC_ops Q 5 #[false,true,true,false,false,false,false] { tmps:=(t0 :: t1 :: (.pointer (some ⟨Wk,0,none⟩)) :: t3 :: t4 :: (.pointer (some ⟨O,0,none⟩)) :: (.pointer (some ⟨Bx,0,none⟩)) :: t7 :: t8 :: t9 :: (.func (.func 19) #[] #[]) :: (.agg #[.int .u8 x.k,.bool x.b,.slice x.a1 x.n1 x.c1,.slice x.a2 x.n2 x.c2,.int .i32 x.c,.slice x.a3 x.n3 x.c3]) :: t12 :: t13 :: t14 :: t15 :: r).toArray,defers:=ds } W:=by
 refine wpAnyIn_ready (rs:=[0,3]) (by kernel_rfl) (by simp) ?_;refine AllReadyIn.cons (o:={ dst:=some 9,op:=Op.load 22 (Operand.tmp 5),type:=22,pos:= "array.go:135",after:=#[],guard:=none }) rfl (fun K hK => ?_) ?_
 · have cO:=(show BoxA _ O 22 #[.slice b3 i d3] from BO).cell 0 rfl
   go_simp
   refine hK _ _ ?_;exact eachC_s31 HO BO BW BX lO lZ hi hQ hc
 refine AllReadyIn.cons (o:={ dst:=some 12,op:=Op.call { callee:=Callee.value (Operand.tmp 10),args:=#[Operand.tmp 11],argTypes:=#[68] },type:=68,pos:= "array.go:135",after:=#[{ on:=1,ground:=Ground.data },{ on:=2,ground:=Ground.data }],guard:=none }) rfl (fun K hK => ?_) ?_
 · go_simp
   refine ⟨trivial,(fun h=>by cases h),(hc _).mono ?_⟩;rintro e wa ⟨y,rfl,hI,k⟩;go_simp
   refine hK _ _ ?_;exact eachC_s40 HO BO BW BX lO lZ hi hQ hI k
 exact AllReadyIn.nil
theorem eachC_s21 (HO:W.ownsRow Z 68 6 (.slice b3 i d3) i xs) (BO:BoxA W O 22 #[.slice b3 i d3]) (BW:BoxA W Wk 53 #[.func (.func 19) #[] #[]]) (BX:BoxA W Bx 68 #[.int .u8 x.k,.bool x.b,.slice x.a1 x.n1 x.c1,.slice x.a2 x.n2 x.c2,.int .i32 x.c,.slice x.a3 x.n3 x.c3]) (lO:O<Z) (lZ:Z≤W.heap.size) (hi:(i+1)*96≤140737488355328) (hQ:∀ (y:IV) (wa:World) (b4:Option Addr) (d4:Nat) (w2:World),IsIt f (Fr W.heap.size wa.heap.size) wa y t→Below W.heap.size W wa→w2.ownsRow Z 68 6 (.slice b4 (i+1) d4) (i+1) (xs++[.int .u8 y.k,.bool y.b,.slice y.a1 y.n1 y.c1,.slice y.a2 y.n2 y.c2,.int .i32 y.c,.slice y.a3 y.n3 y.c3])→(wa.alloc (.cells #[.int .u8 y.k,.bool y.b,.slice y.a1 y.n1 y.c1,.slice y.a2 y.n2 y.c2,.int .i32 y.c,.slice y.a3 y.n3 y.c3] 68)).grownBy w2 (Value.slice b3 i d3).ownBlock→((Value.slice b4 (i+1) d4).ownBlock=(Value.slice b3 i d3).ownBlock∨(Value.slice b4 (i+1) d4).ownBlock=some (wa.alloc (.cells #[.int .u8 y.k,.bool y.b,.slice y.a1 y.n1 y.c1,.slice y.a2 y.n2 y.c2,.int .i32 y.c,.slice y.a3 y.n3 y.c3] 68)).heap.size)→Q .normal { tmps:=(t0 :: t1 :: (.pointer (some ⟨Wk,0,none⟩)) :: t3 :: t4 :: (.pointer (some ⟨O,0,none⟩)) :: (.pointer (some ⟨Bx,0,none⟩)) :: t7 :: t8 :: (.slice b3 i d3) :: (.func (.func 19) #[] #[]) :: (.agg #[.int .u8 x.k,.bool x.b,.slice x.a1 x.n1 x.c1,.slice x.a2 x.n2 x.c2,.int .i32 x.c,.slice x.a3 x.n3 x.c3]) :: (.agg #[.int .u8 y.k,.bool y.b,.slice y.a1 y.n1 y.c1,.slice y.a2 y.n2 y.c2,.int .i32 y.c,.slice y.a3 y.n3 y.c3]) :: (.slice (some ⟨wa.heap.size,0,none⟩) 1 1) :: (.slice b4 (i+1) d4) :: t15 :: r).toArray,defers:=ds } (w2.setCell ⟨O,0,none⟩ (.slice b4 (i+1) d4))) (hc:∀ N,CallsIn (Fence.wide.inRound l) N Tryz.prog 19 #[.agg #[.int .u8 x.k,.bool x.b,.slice x.a1 x.n1 x.c1,.slice x.a2 x.n2 x.c2,.int .i32 x.c,.slice x.a3 x.n3 x.c3]] W fun e w2=>∃ y:IV,e=.returned (.agg #[.int .u8 y.k,.bool y.b,.slice y.a1 y.n1 y.c1,.slice y.a2 y.n2 y.c2,.int .i32 y.c,.slice y.a3 y.n3 y.c3])∧IsIt f (Fr W.heap.size w2.heap.size) w2 y t∧Below W.heap.size W w2) :
    wpAnyIn (Fence.wide.inRound l) N Tryz.prog .any eachC_ops Q 5 #[true,false,true,false,false,false,false] { tmps:=(t0 :: t1 :: (.pointer (some ⟨Wk,0,none⟩)) :: t3 :: t4 :: (.pointer (some ⟨O,0,none⟩)) :: (.pointer (some ⟨Bx,0,none⟩)) :: t7 :: t8 :: (.slice b3 i d3) :: t10 :: (.agg #[.int .u8 x.k,.bool x.b,.slice x.a1 x.n1 x.c1,.slice x.a2 x.n2 x.c2,.int .i32 x.c,.slice x.a3 x.n3 x.c3]) :: t12 :: t13 :: t14 :: t15 :: r).toArray,defers:=ds } W:=by
 refine wpAnyIn_ready (rs:=[1]) (by kernel_rfl) (by simp) ?_;refine AllReadyIn.cons (o:={ dst:=some 10,op:=Op.load 53 (Operand.tmp 2),type:=53,pos:= "array.go:135",after:=#[],guard:=none }) rfl (fun K hK => ?_) ?_
 · have cW:=BW.cell 0 rfl
   go_simp
   refine hK _ _ ?_;exact eachC_s31 HO BO BW BX lO lZ hi hQ hc
 exact AllReadyIn.nil
theorem eachC_s20 (HO:W.ownsRow Z 68 6 (.slice b3 i d3) i xs) (BO:BoxA W O 22 #[.slice b3 i d3]) (BW:BoxA W Wk 53 #[.func (.func 19) #[] #[]]) (BX:BoxA W Bx 68 #[.int .u8 x.k,.bool x.b,.slice x.a1 x.n1 x.c1,.slice x.a2 x.n2 x.c2,.int .i32 x.c,.slice x.a3 x.n3 x.c3]) (lO:O<Z) (lZ:Z≤W.heap.size) (hi:(i+1)*96≤140737488355328) (hQ:∀ (y:IV) (wa:World) (b4:Option Addr) (d4:Nat) (w2:World),IsIt f (Fr W.heap.size wa.heap.size) wa y t→Below W.heap.size W wa→w2.ownsRow Z 68 6 (.slice b4 (i+1) d4) (i+1) (xs++[.int .u8 y.k,.bool y.b,.slice y.a1 y.n1 y.c1,.slice y.a2 y.n2 y.c2,.int .i32 y.c,.slice y.a3 y.n3 y.c3])→(wa.alloc (.cells #[.int .u8 y.k,.bool y.b,.slice y.a1 y.n1 y.c1,.slice y.a2 y.n2 y.c2,.int .i32 y.c,.slice y.a3 y.n3 y.c3] 68)).grownBy w2 (Value.slice b3 i d3).ownBlock→((Value.slice b4 (i+1) d4).ownBlock=(Value.slice b3 i d3).ownBlock∨(Value.slice b4 (i+1) d4).ownBlock=some (wa.alloc (.cells #[.int .u8 y.k,.bool y.b,.slice y.a1 y.n1 y.c1,.slice y.a2 y.n2 y.c2,.int .i32 y.c,.slice y.a3 y.n3 y.c3] 68)).heap.size)→Q .normal { tmps:=(t0 :: t1 :: (.pointer (some ⟨Wk,0,none⟩)) :: t3 :: t4 :: (.pointer (some ⟨O,0,none⟩)) :: (.pointer (some ⟨Bx,0,none⟩)) :: t7 :: t8 :: (.slice b3 i d3) :: (.func (.func 19) #[] #[]) :: (.agg #[.int .u8 x.k,.bool x.b,.slice x.a1 x.n1 x.c1,.slice x.a2 x.n2 x.c2,.int .i32 x.c,.slice x.a3 x.n3 x.c3]) :: (.agg #[.int .u8 y.k,.bool y.b,.slice y.a1 y.n1 y.c1,.slice y.a2 y.n2 y.c2,.int .i32 y.c,.slice y.a3 y.n3 y.c3]) :: (.slice (some ⟨wa.heap.size,0,none⟩) 1 1) :: (.slice b4 (i+1) d4) :: t15 :: r).toArray,defers:=ds } (w2.setCell ⟨O,0,none⟩ (.slice b4 (i+1) d4))) (hc:∀ N,CallsIn (Fence.wide.inRound l) N Tryz.prog 19 #[.agg #[.int .u8 x.k,.bool x.b,.slice x.a1 x.n1 x.c1,.slice x.a2 x.n2 x.c2,.int .i32 x.c,.slice x.a3 x.n3 x.c3]] W fun e w2=>∃ y:IV,e=.returned (.agg #[.int .u8 y.k,.bool y.b,.slice y.a1 y.n1 y.c1,.slice y.a2 y.n2 y.c2,.int .i32 y.c,.slice y.a3 y.n3 y.c3])∧IsIt f (Fr W.heap.size w2.heap.size) w2 y t∧Below W.heap.size W w2) :
    wpAnyIn (Fence.wide.inRound l) N Tryz.prog .any eachC_ops Q 6 #[false,false,true,false,false,false,false] { tmps:=(t0 :: t1 :: (.pointer (some ⟨Wk,0,none⟩)) :: t3 :: t4 :: (.pointer (some ⟨O,0,none⟩)) :: (.pointer (some ⟨Bx,0,none⟩)) :: t7 :: t8 :: t9 :: t10 :: (.agg #[.int .u8 x.k,.bool x.b,.slice x.a1 x.n1 x.c1,.slice x.a2 x.n2 x.c2,.int .i32 x.c,.slice x.a3 x.n3 x.c3]) :: t12 :: t13 :: t14 :: t15 :: r).toArray,defers:=ds } W:=by
 refine wpAnyIn_ready (rs:=[0,1]) (by kernel_rfl) (by simp) ?_;refine AllReadyIn.cons (o:={ dst:=some 9,op:=Op.load 22 (Operand.tmp 5),type:=22,pos:= "array.go:135",after:=#[],guard:=none }) rfl (fun K hK => ?_) ?_
 · have cO:=(show BoxA _ O 22 #[.slice b3 i d3] from BO).cell 0 rfl
   go_simp
   refine hK _ _ ?_;exact eachC_s21 HO BO BW BX lO lZ hi hQ hc
 refine AllReadyIn.cons (o:={ dst:=some 10,op:=Op.load 53 (Operand.tmp 2),type:=53,pos:= "array.go:135",after:=#[],guard:=none }) rfl (fun K hK => ?_) ?_
 · have cW:=BW.cell 0 rfl
   go_simp
   refine hK _ _ ?_;exact eachC_s30 HO BO BW BX lO lZ hi hQ hc
 exact AllReadyIn.nil
theorem eachC_s11 (HO:W.ownsRow Z 68 6 (.slice b3 i d3) i xs) (BO:BoxA W O 22 #[.slice b3 i d3]) (BW:BoxA W Wk 53 #[.func (.func 19) #[] #[]]) (BX:BoxA W Bx 68 #[.int .u8 x.k,.bool x.b,.slice x.a1 x.n1 x.c1,.slice x.a2 x.n2 x.c2,.int .i32 x.c,.slice x.a3 x.n3 x.c3]) (lO:O<Z) (lZ:Z≤W.heap.size) (hi:(i+1)*96≤140737488355328) (hQ:∀ (y:IV) (wa:World) (b4:Option Addr) (d4:Nat) (w2:World),IsIt f (Fr W.heap.size wa.heap.size) wa y t→Below W.heap.size W wa→w2.ownsRow Z 68 6 (.slice b4 (i+1) d4) (i+1) (xs++[.int .u8 y.k,.bool y.b,.slice y.a1 y.n1 y.c1,.slice y.a2 y.n2 y.c2,.int .i32 y.c,.slice y.a3 y.n3 y.c3])→(wa.alloc (.cells #[.int .u8 y.k,.bool y.b,.slice y.a1 y.n1 y.c1,.slice y.a2 y.n2 y.c2,.int .i32 y.c,.slice y.a3 y.n3 y.c3] 68)).grownBy w2 (Value.slice b3 i d3).ownBlock→((Value.slice b4 (i+1) d4).ownBlock=(Value.slice b3 i d3).ownBlock∨(Value.slice b4 (i+1) d4).ownBlock=some (wa.alloc (.cells #[.int .u8 y.k,.bool y.b,.slice y.a1 y.n1 y.c1,.slice y.a2 y.n2 y.c2,.int .i32 y.c,.slice y.a3 y.n3 y.c3] 68)).heap.size)→Q .normal { tmps:=(t0 :: t1 :: (.pointer (some ⟨Wk,0,none⟩)) :: t3 :: t4 :: (.pointer (some ⟨O,0,none⟩)) :: (.pointer (some ⟨Bx,0,none⟩)) :: t7 :: t8 :: (.slice b3 i d3) :: (.func (.func 19) #[] #[]) :: (.agg #[.int .u8 x.k,.bool x.b,.slice x.a1 x.n1 x.c1,.slice x.a2 x.n2 x.c2,.int .i32 x.c,.slice x.a3 x.n3 x.c3]) :: (.agg #[.int .u8 y.k,.bool y.b,.slice y.a1 y.n1 y.c1,.slice y.a2 y.n2 y.c2,.int .i32 y.c,.slice y.a3 y.n3 y.c3]) :: (.slice (some ⟨wa.heap.size,0,none⟩) 1 1) :: (.slice b4 (i+1) d4) :: t15 :: r).toArray,defers:=ds } (w2.setCell ⟨O,0,none⟩ (.slice b4 (i+1) d4))) (hc:∀ N,CallsIn (Fence.wide.inRound l) N Tryz.prog 19 #[.agg #[.int .u8 x.k,.bool x.b,.slice x.a1 x.n1 x.c1,.slice x.a2 x.n2 x.c2,.int .i32 x.c,.slice x.a3 x.n3 x.c3]] W fun e w2=>∃ y:IV,e=.returned (.agg #[.int .u8 y.k,.bool y.b,.slice y.a1 y.n1 y.c1,.slice y.a2 y.n2 y.c2,.int .i32 y.c,.slice y.a3 y.n3 y.c3])∧IsIt f (Fr W.heap.size w2.heap.size) w2 y t∧Below W.heap.size W w2) :
    wpAnyIn (Fence.wide.inRound l) N Tryz.prog .any eachC_ops Q 5 #[true,true,false,false,false,false,false] { tmps:=(t0 :: t1 :: (.pointer (some ⟨Wk,0,none⟩)) :: t3 :: t4 :: (.pointer (some ⟨O,0,none⟩)) :: (.pointer (some ⟨Bx,0,none⟩)) :: t7 :: t8 :: (.slice b3 i d3) :: (.func (.func 19) #[] #[]) :: t11 :: t12 :: t13 :: t14 :: t15 :: r).toArray,defers:=ds } W:=by
 refine wpAnyIn_ready (rs:=[2]) (by kernel_rfl) (by simp) ?_;refine AllReadyIn.cons (o:={ dst:=some 11,op:=Op.load 68 (Operand.tmp 6),type:=68,pos:= "array.go:135",after:=#[],guard:=none }) rfl (fun K hK => ?_) ?_
 · have m0:=BX.cell 0 rfl
   have m1:=BX.cell 1 rfl;have m2:=BX.cell 2 rfl;have m3:=BX.cell 3 rfl;have m4:=BX.cell 4 rfl;have m5:=BX.cell 5 rfl;go_simp
   refine hK _ _ ?_;exact eachC_s31 HO BO BW BX lO lZ hi hQ hc
 exact AllReadyIn.nil
theorem eachC_s10 (HO:W.ownsRow Z 68 6 (.slice b3 i d3) i xs) (BO:BoxA W O 22 #[.slice b3 i d3]) (BW:BoxA W Wk 53 #[.func (.func 19) #[] #[]]) (BX:BoxA W Bx 68 #[.int .u8 x.k,.bool x.b,.slice x.a1 x.n1 x.c1,.slice x.a2 x.n2 x.c2,.int .i32 x.c,.slice x.a3 x.n3 x.c3]) (lO:O<Z) (lZ:Z≤W.heap.size) (hi:(i+1)*96≤140737488355328) (hQ:∀ (y:IV) (wa:World) (b4:Option Addr) (d4:Nat) (w2:World),IsIt f (Fr W.heap.size wa.heap.size) wa y t→Below W.heap.size W wa→w2.ownsRow Z 68 6 (.slice b4 (i+1) d4) (i+1) (xs++[.int .u8 y.k,.bool y.b,.slice y.a1 y.n1 y.c1,.slice y.a2 y.n2 y.c2,.int .i32 y.c,.slice y.a3 y.n3 y.c3])→(wa.alloc (.cells #[.int .u8 y.k,.bool y.b,.slice y.a1 y.n1 y.c1,.slice y.a2 y.n2 y.c2,.int .i32 y.c,.slice y.a3 y.n3 y.c3] 68)).grownBy w2 (Value.slice b3 i d3).ownBlock→((Value.slice b4 (i+1) d4).ownBlock=(Value.slice b3 i d3).ownBlock∨(Value.slice b4 (i+1) d4).ownBlock=some (wa.alloc (.cells #[.int .u8 y.k,.bool y.b,.slice y.a1 y.n1 y.c1,.slice y.a2 y.n2 y.c2,.int .i32 y.c,.slice y.a3 y.n3 y.c3] 68)).heap.size)→Q .normal { tmps:=(t0 :: t1 :: (.pointer (some ⟨Wk,0,none⟩)) :: t3 :: t4 :: (.pointer (some ⟨O,0,none⟩)) :: (.pointer (some ⟨Bx,0,none⟩)) :: t7 :: t8 :: (.slice b3 i d3) :: (.func (.func 19) #[] #[]) :: (.agg #[.int .u8 x.k,.bool x.b,.slice x.a1 x.n1 x.c1,.slice x.a2 x.n2 x.c2,.int .i32 x.c,.slice x.a3 x.n3 x.c3]) :: (.agg #[.int .u8 y.k,.bool y.b,.slice y.a1 y.n1 y.c1,.slice y.a2 y.n2 y.c2,.int .i32 y.c,.slice y.a3 y.n3 y.c3]) :: (.slice (some ⟨wa.heap.size,0,none⟩) 1 1) :: (.slice b4 (i+1) d4) :: t15 :: r).toArray,defers:=ds } (w2.setCell ⟨O,0,none⟩ (.slice b4 (i+1) d4))) (hc:∀ N,CallsIn (Fence.wide.inRound l) N Tryz.prog 19 #[.agg #[.int .u8 x.k,.bool x.b,.slice x.a1 x.n1 x.c1,.slice x.a2 x.n2 x.c2,.int .i32 x.c,.slice x.a3 x.n3 x.c3]] W fun e w2=>∃ y:IV,e=.returned (.agg #[.int .u8 y.k,.bool y.b,.slice y.a1 y.n1 y.c1,.slice y.a2 y.n2 y.c2,.int .i32 y.c,.slice y.a3 y.n3 y.c3])∧IsIt f (Fr W.heap.size w2.heap.size) w2 y t∧Below W.heap.size W w2) :
    wpAnyIn (Fence.wide.inRound l) N Tryz.prog .any eachC_ops Q 6 #[false,true,false,false,false,false,false] { tmps:=(t0 :: t1 :: (.pointer (some ⟨Wk,0,none⟩)) :: t3 :: t4 :: (.pointer (some ⟨O,0,none⟩)) :: (.pointer (some ⟨Bx,0,none⟩)) :: t7 :: t8 :: t9 :: (.func (.func 19) #[] #[]) :: t11 :: t12 :: t13 :: t14 :: t15 :: r).toArray,defers:=ds } W:=by
 refine wpAnyIn_ready (rs:=[0,2]) (by kernel_rfl) (by simp) ?_;refine AllReadyIn.cons (o:={ dst:=some 9,op:=Op.load 22 (Operand.tmp 5),type:=22,pos:= "array.go:135",after:=#[],guard:=none }) rfl (fun K hK => ?_) ?_
 · have cO:=(show BoxA _ O 22 #[.slice b3 i d3] from BO).cell 0 rfl
   go_simp
   refine hK _ _ ?_;exact eachC_s11 HO BO BW BX lO lZ hi hQ hc
 refine AllReadyIn.cons (o:={ dst:=some 11,op:=Op.load 68 (Operand.tmp 6),type:=68,pos:= "array.go:135",after:=#[],guard:=none }) rfl (fun K hK => ?_) ?_
 · have m0:=BX.cell 0 rfl
   have m1:=BX.cell 1 rfl;have m2:=BX.cell 2 rfl;have m3:=BX.cell 3 rfl;have m4:=BX.cell 4 rfl;have m5:=BX.cell 5 rfl;go_simp
   refine hK _ _ ?_;exact eachC_s30 HO BO BW BX lO lZ hi hQ hc
 exact AllReadyIn.nil
theorem eachC_s01 (HO:W.ownsRow Z 68 6 (.slice b3 i d3) i xs) (BO:BoxA W O 22 #[.slice b3 i d3]) (BW:BoxA W Wk 53 #[.func (.func 19) #[] #[]]) (BX:BoxA W Bx 68 #[.int .u8 x.k,.bool x.b,.slice x.a1 x.n1 x.c1,.slice x.a2 x.n2 x.c2,.int .i32 x.c,.slice x.a3 x.n3 x.c3]) (lO:O<Z) (lZ:Z≤W.heap.size) (hi:(i+1)*96≤140737488355328) (hQ:∀ (y:IV) (wa:World) (b4:Option Addr) (d4:Nat) (w2:World),IsIt f (Fr W.heap.size wa.heap.size) wa y t→Below W.heap.size W wa→w2.ownsRow Z 68 6 (.slice b4 (i+1) d4) (i+1) (xs++[.int .u8 y.k,.bool y.b,.slice y.a1 y.n1 y.c1,.slice y.a2 y.n2 y.c2,.int .i32 y.c,.slice y.a3 y.n3 y.c3])→(wa.alloc (.cells #[.int .u8 y.k,.bool y.b,.slice y.a1 y.n1 y.c1,.slice y.a2 y.n2 y.c2,.int .i32 y.c,.slice y.a3 y.n3 y.c3] 68)).grownBy w2 (Value.slice b3 i d3).ownBlock→((Value.slice b4 (i+1) d4).ownBlock=(Value.slice b3 i d3).ownBlock∨(Value.slice b4 (i+1) d4).ownBlock=some (wa.alloc (.cells #[.int .u8 y.k,.bool y.b,.slice y.a1 y.n1 y.c1,.slice y.a2 y.n2 y.c2,.int .i32 y.c,.slice y.a3 y.n3 y.c3] 68)).heap.size)→Q .normal { tmps:=(t0 :: t1 :: (.pointer (some ⟨Wk,0,none⟩)) :: t3 :: t4 :: (.pointer (some ⟨O,0,none⟩)) :: (.pointer (some ⟨Bx,0,none⟩)) :: t7 :: t8 :: (.slice b3 i d3) :: (.func (.func 19) #[] #[]) :: (.agg #[.int .u8 x.k,.bool x.b,.slice x.a1 x.n1 x.c1,.slice x.a2 x.n2 x.c2,.int .i32 x.c,.slice x.a3 x.n3 x.c3]) :: (.agg #[.int .u8 y.k,.bool y.b,.slice y.a1 y.n1 y.c1,.slice y.a2 y.n2 y.c2,.int .i32 y.c,.slice y.a3 y.n3 y.c3]) :: (.slice (some ⟨wa.heap.size,0,none⟩) 1 1) :: (.slice b4 (i+1) d4) :: t15 :: r).toArray,defers:=ds } (w2.setCell ⟨O,0,none⟩ (.slice b4 (i+1) d4))) (hc:∀ N,CallsIn (Fence.wide.inRound l) N Tryz.prog 19 #[.agg #[.int .u8 x.k,.bool x.b,.slice x.a1 x.n1 x.c1,.slice x.a2 x.n2 x.c2,.int .i32 x.c,.slice x.a3 x.n3 x.c3]] W fun e w2=>∃ y:IV,e=.returned (.agg #[.int .u8 y.k,.bool y.b,.slice y.a1 y.n1 y.c1,.slice y.a2 y.n2 y.c2,.int .i32 y.c,.slice y.a3 y.n3 y.c3])∧IsIt f (Fr W.heap.size w2.heap.size) w2 y t∧Below W.heap.size W w2) :
    wpAnyIn (Fence.wide.inRound l) N Tryz.prog .any eachC_ops Q 6 #[true,false,false,false,false,false,false] { tmps:=(t0 :: t1 :: (.pointer (some ⟨Wk,0,none⟩)) :: t3 :: t4 :: (.pointer (some ⟨O,0,none⟩)) :: (.pointer (some ⟨Bx,0,none⟩)) :: t7 :: t8 :: (.slice b3 i d3) :: t10 :: t11 :: t12 :: t13 :: t14 :: t15 :: r).toArray,defers:=ds } W:=by
 refine wpAnyIn_ready (rs:=[1,2]) (by kernel_rfl) (by simp) ?_;refine AllReadyIn.cons (o:={ dst:=some 10,op:=Op.load 53 (Operand.tmp 2),type:=53,pos:= "array.go:135",after:=#[],guard:=none }) rfl (fun K hK => ?_) ?_
 · have cW:=BW.cell 0 rfl
   go_simp
   refine hK _ _ ?_;exact eachC_s11 HO BO BW BX lO lZ hi hQ hc
 refine AllReadyIn.cons (o:={ dst:=some 11,op:=Op.load 68 (Operand.tmp 6),type:=68,pos:= "array.go:135",after:=#[],guard:=none }) rfl (fun K hK => ?_) ?_
 · have m0:=BX.cell 0 rfl
   have m1:=BX.cell 1 rfl;have m2:=BX.cell 2 rfl;have m3:=BX.cell 3 rfl;have m4:=BX.cell 4 rfl;have m5:=BX.cell 5 rfl;go_simp
   refine hK _ _ ?_;exact eachC_s21 HO BO BW BX lO lZ hi hQ hc
 exact AllReadyIn.nil
theorem eachC_s00 (HO:W.ownsRow Z 68 6 (.slice b3 i d3) i xs) (BO:BoxA W O 22 #[.slice b3 i d3]) (BW:BoxA W Wk 53 #[.func (.func 19) #[] #[]]) (BX:BoxA W Bx 68 #[.int .u8 x.k,.bool x.b,.slice x.a1 x.n1 x.c1,.slice x.a2 x.n2 x.c2,.int .i32 x.c,.slice x.a3 x.n3 x.c3]) (lO:O<Z) (lZ:Z≤W.heap.size) (hi:(i+1)*96≤140737488355328) (hQ:∀ (y:IV) (wa:World) (b4:Option Addr) (d4:Nat) (w2:World),IsIt f (Fr W.heap.size wa.heap.size) wa y t→Below W.heap.size W wa→w2.ownsRow Z 68 6 (.slice b4 (i+1) d4) (i+1) (xs++[.int .u8 y.k,.bool y.b,.slice y.a1 y.n1 y.c1,.slice y.a2 y.n2 y.c2,.int .i32 y.c,.slice y.a3 y.n3 y.c3])→(wa.alloc (.cells #[.int .u8 y.k,.bool y.b,.slice y.a1 y.n1 y.c1,.slice y.a2 y.n2 y.c2,.int .i32 y.c,.slice y.a3 y.n3 y.c3] 68)).grownBy w2 (Value.slice b3 i d3).ownBlock→((Value.slice b4 (i+1) d4).ownBlock=(Value.slice b3 i d3).ownBlock∨(Value.slice b4 (i+1) d4).ownBlock=some (wa.alloc (.cells #[.int .u8 y.k,.bool y.b,.slice y.a1 y.n1 y.c1,.slice y.a2 y.n2 y.c2,.int .i32 y.c,.slice y.a3 y.n3 y.c3] 68)).heap.size)→Q .normal { tmps:=(t0 :: t1 :: (.pointer (some ⟨Wk,0,none⟩)) :: t3 :: t4 :: (.pointer (some ⟨O,0,none⟩)) :: (.pointer (some ⟨Bx,0,none⟩)) :: t7 :: t8 :: (.slice b3 i d3) :: (.func (.func 19) #[] #[]) :: (.agg #[.int .u8 x.k,.bool x.b,.slice x.a1 x.n1 x.c1,.slice x.a2 x.n2 x.c2,.int .i32 x.c,.slice x.a3 x.n3 x.c3]) :: (.agg #[.int .u8 y.k,.bool y.b,.slice y.a1 y.n1 y.c1,.slice y.a2 y.n2 y.c2,.int .i32 y.c,.slice y.a3 y.n3 y.c3]) :: (.slice (some ⟨wa.heap.size,0,none⟩) 1 1) :: (.slice b4 (i+1) d4) :: t15 :: r).toArray,defers:=ds } (w2.setCell ⟨O,0,none⟩ (.slice b4 (i+1) d4))) (hc:∀ N,CallsIn (Fence.wide.inRound l) N Tryz.prog 19 #[.agg #[.int .u8 x.k,.bool x.b,.slice x.a1 x.n1 x.c1,.slice x.a2 x.n2 x.c2,.int .i32 x.c,.slice x.a3 x.n3 x.c3]] W fun e w2=>∃ y:IV,e=.returned (.agg #[.int .u8 y.k,.bool y.b,.slice y.a1 y.n1 y.c1,.slice y.a2 y.n2 y.c2,.int .i32 y.c,.slice y.a3 y.n3 y.c3])∧IsIt f (Fr W.heap.size w2.heap.size) w2 y t∧Below W.heap.size W w2) :
    wpAnyIn (Fence.wide.inRound l) N Tryz.prog .any eachC_ops Q 7 #[false,false,false,false,false,false,false] { tmps:=(t0 :: t1 :: (.pointer (some ⟨Wk,0,none⟩)) :: t3 :: t4 :: (.pointer (some ⟨O,0,none⟩)) :: (.pointer (some ⟨Bx,0,none⟩)) :: t7 :: t8 :: t9 :: t10 :: t11 :: t12 :: t13 :: t14 :: t15 :: r).toArray,defers:=ds } W:=by
 refine wpAnyIn_ready (rs:=[0,1,2]) (by kernel_rfl) (by simp) ?_;refine AllReadyIn.cons (o:={ dst:=some 9,op:=Op.load 22 (Operand.tmp 5),type:=22,pos:= "array.go:135",after:=#[],guard:=none }) rfl (fun K hK => ?_) ?_
 · have cO:=(show BoxA _ O 22 #[.slice b3 i d3] from BO).cell 0 rfl
   go_simp
   refine hK _ _ ?_;exact eachC_s01 HO BO BW BX lO lZ hi hQ hc
 refine AllReadyIn.cons (o:={ dst:=some 10,op:=Op.load 53 (Operand.tmp 2),type:=53,pos:= "array.go:135",after:=#[],guard:=none }) rfl (fun K hK => ?_) ?_
 · have cW:=BW.cell 0 rfl
   go_simp
   refine hK _ _ ?_;exact eachC_s10 HO BO BW BX lO lZ hi hQ hc
 refine AllReadyIn.cons (o:={ dst:=some 11,op:=Op.load 68 (Operand.tmp 6),type:=68,pos:= "array.go:135",after:=#[],guard:=none }) rfl (fun K hK => ?_) ?_
 · have m0:=BX.cell 0 rfl
   have m1:=BX.cell 1 rfl;have m2:=BX.cell 2 rfl;have m3:=BX.cell 3 rfl;have m4:=BX.cell 4 rfl;have m5:=BX.cell 5 rfl;go_simp
   refine hK _ _ ?_;exact eachC_s20 HO BO BW BX lO lZ hi hQ hc
 exact AllReadyIn.nil
end
end
section
open Go.RowKit Go.Shelf
attribute [local go_sem] Oper.semAt_some
theorem eachC_any {w:World} {gf:Nat} {lb:Array Value} {Gd:List IV→IV→World→Prop} {Sx:List IV→World→Prop} {f:Nat} {ts:List Tr}
    (eg:∀ args w,(callFunc gf args).run Tryz.prog w=.ok (.enter gf args) w) (hp:Pays Fence.wide 5 Tryz.prog gf lb IV.encs (KeepW w.heap.size) Gd Sx w) (hS:OwnFrom w.heap.size Sx)
    (hGs:∀ pre x,OwnFrom w.heap.size (fun (_:Unit) W=>Gd pre x W)) (hGl:∀ pre x W,Gd pre x W→pre.length<ts.length) (hSl:∀ xs W,Sx xs W→xs.length=ts.length) (hsz:ts.length*96≤140737488355328)
    (hwk:∀ pre x W,Gd pre x W→Calls Tryz.prog 19 #[.agg #[.int .u8 x.k,.bool x.b,.slice x.a1 x.n1 x.c1,.slice x.a2 x.n2 x.c2,.int .i32 x.c,.slice x.a3 x.n3 x.c3]] W fun e w'=>∃ y:IV,e=.returned (.agg #[.int .u8 y.k,.bool y.b,.slice y.a1 y.n1 y.c1,.slice y.a2 y.n2 y.c2,.int .i32 y.c,.slice y.a3 y.n3 y.c3])∧IsIt f (Fr W.heap.size w'.heap.size) w' y (ts.getD pre.length tr0)∧Below W.heap.size W w') :
    Calls Tryz.prog 24 #[.func (.func 19) #[] #[],.func (.func gf) #[] lb] w fun e w'=>∃ a c,e=.returned (.slice a ts.length c)∧RowB (Fr w.heap.size w'.heap.size) ts.length (.slice a ts.length c) (fun g o j=>ItC (ArV f (Fr w.heap.size w'.heap.size) w') (Fr w.heap.size w'.heap.size) w' g (o+j*6) (ts.getD j tr0))∧Below w.heap.size w w':=by
 have g1:=below_alloc w (.cells #[.func (.func 19) #[] #[]] 53);have g2:=below_alloc (w.alloc (.cells #[.func (.func 19) #[] #[]] 53)) (.cells #[.slice none 0 0] 22);have BW:=(boxA_new w #[.func (.func 19) #[] #[]] 53).below g2 (by simp);have BO:=boxA_new (w.alloc (.cells #[.func (.func 19) #[] #[]] 53)) #[.slice none 0 0] 22;rw [World.size_alloc] at BO;have g:Below w.heap.size w _:=g1.trans (g2.mono (by simp));have sW:((w.alloc (.cells #[.func (.func 19) #[] #[]] 53)).alloc (.cells #[.slice none 0 0] 22)).heap.size=w.heap.size+1+1:=by simp
 clear g1 g2;refine (callsIn_wide (n:=6)).1 ?_;refine callsIn_of_wp_marks Tryz.func24 rfl trivial ?_ rfl;simp only [Tryz.ntmps24,List.size_toArray,List.length_cons,List.length_nil,Nat.reduceAdd,Nat.reduceSub,Array.replicate_succ,Array.replicate_zero,List.push_toArray,List.append_toArray,List.nil_append,List.cons_append]
 gi_wp2_with fail
 generalize (w.alloc (.cells #[.func (.func 19) #[] #[]] 53)).alloc (.cells #[.slice none 0 0] 22)=W0 at *;refine wpIn_range_pays rfl (by omega) (gf:=gf) (lb:=lb) rfl trivial eg hp (fun h h'=>h.trans h') (fun W l o o' hl ho _ hw=>keepW_put (B0:=W0.heap.size) (by omega) W l o o' hl ho hw) g (fun _=>rfl)
  (fun pre W=>∃ a c,BoxA W (w.heap.size+1) 22 #[.slice a pre.length c]∧RowOf 68 6 (ElI f ts) (w.heap.size+1+1) W (.slice a pre.length c) pre.length∧BoxA W w.heap.size 53 #[.func (.func 19) #[] #[]]∧Below w.heap.size w W)
  ?hI ⟨none,0,BO,RowOf.nil,BW,g⟩ (fun s A B row h hg hrow=>hS s A B row h hg (fun k e=>⟨by have:=(hrow k e).1;omega,(hrow k e).2⟩))
  (fun pre x a' W=>Gd pre x W∧∃ Bx,BoxA W Bx 68 #[.int .u8 x.k,.bool x.b,.slice x.a1 x.n1 x.c1,.slice x.a2 x.n2 x.c2,.int .i32 x.c,.slice x.a3 x.n3 x.c3]∧a'={ tmps:=#[.func (.func 19) #[] #[],.func (.func gf) #[] lb,.pointer (some ⟨w.heap.size,0,none⟩),undef,.slice none 0 0,.pointer (some ⟨w.heap.size+1,0,none⟩),.pointer (some ⟨Bx,0,none⟩),.func (.func gf) #[] lb,.agg #[.int .u8 x.k,.bool x.b,.slice x.a1 x.n1 x.c1,.slice x.a2 x.n2 x.c2,.int .i32 x.c,.slice x.a3 x.n3 x.c3],undef,undef,undef,undef,undef,undef,undef],defers:=[] })
  ?hAx ?assign ?body ?done
 case hI=>
  rintro s A B row ⟨a,c,b1,b2,b3,b4⟩ hg hrow;exact ⟨a,c,boxA_kept b1 hg (fun k e=>(hrow k e).2),rowI_grown b2 hg (fun k e=>(hrow k e).2),boxA_kept b3 hg (fun k e=>(hrow k e).2),b4.grown hg b4.size (fun k e=>by have:=(hrow k e).1;omega)⟩
 case hAx=>
  rintro pre x a' _ A B row ⟨h1,Bx,h3,h4⟩ hg hrow;exact ⟨hGs pre x () A B row h1 hg (fun k e=>⟨by have:=(hrow k e).1;omega,(hrow k e).2⟩),Bx,boxA_kept h3 hg (fun k e=>(hrow k e).2),h4⟩
 case assign=>
  rintro l pre x W K ⟨a,c,b1,b2,b3,b4⟩ hG hK;dsimp only [IV.encs];have kx:=below_alloc W (.cells #[.int .u8 x.k,.bool x.b,.slice x.a1 x.n1 x.c1,.slice x.a2 x.n2 x.c2,.int .i32 x.c,.slice x.a3 x.n3 x.c3] 68);have BX:=boxA_new W #[.int .u8 x.k,.bool x.b,.slice x.a1 x.n1 x.c1,.slice x.a2 x.n2 x.c2,.int .i32 x.c,.slice x.a3 x.n3 x.c3] 68;have hG2:=hGs pre x () W _ none hG (World.grownBy_alloc W (.cells #[.int .u8 x.k,.bool x.b,.slice x.a1 x.n1 x.c1,.slice x.a2 x.n2 x.c2,.int .i32 x.c,.slice x.a3 x.n3 x.c3] 68) none) (fun r e=>by cases e);have sb:=b4.size;have c1:=b1.below kx b1.lt;have c3:=b3.below kx b3.lt;have c2:=b2.below (elI_ok f ts) kx (Nat.le_refl _);have c4:=b4.trans (kx.mono sb);have hk1:=(KeepsOthers.alloc W (.cells #[.int .u8 x.k,.bool x.b,.slice x.a1 x.n1 x.c1,.slice x.a2 x.n2 x.c2,.int .i32 x.c,.slice x.a3 x.n3 x.c3] 68));have hk2:KeepW w.heap.size W _:=⟨kx.mono sb,hk1.walks⟩;clear b1 b2 b3 b4 hG kx
  gi_wp2
  exact hK _ _ (hk1.from _) hk2 ⟨a,c,c1,c2,c3,c4⟩ ⟨hG2,W.heap.size,BX,rfl⟩
 case body=>
  rintro l pre x a' W ⟨a,c,b1,b2,b3,b4⟩ ⟨hG,Bx,bX,rfl⟩;have sb:=b4.size;have lO:=b1.lt;obtain ⟨xs,ho,he⟩:=b2;have hl:=hGl pre x W hG;have hG2:Gd pre x W.drew:=hGs pre x () W W.drew none hG ⟨rfl,rfl,rfl,Nat.le_refl _,fun _ _ _=>rfl⟩ (fun r e=>by cases e);have hlen:(pre++[x]).length=pre.length+1:=by simp
  gi_wp2_with fail
  refine wpIn_region_any (by kernel_rfl) ?_;refine eachC_s00 (W:=W.drew) (f:=f) (t:=ts.getD pre.length tr0) (Z:=w.heap.size+1+1) (xs:=xs) (Wk:=w.heap.size) (O:=w.heap.size+1) (Bx:=Bx) (i:=pre.length) (b3:=a) (d3:=c) (x:=x) (l:=l) ho b1 b3 bX (by omega) (by show _≤W.heap.size;omega) (by omega) ?_ (fun N=>CallsIn.inRound l (callsIn_wide.2 (hwk pre x _ hG2)));intro y wa b4' d4 w2 hI k hr hgr hvo;have kb:Below W.heap.size W wa:=below_undrew k;have hrr:=row_round (o:=0) (Y:=w.heap.size+1) (B:=w.heap.size) (V:=w) (wc:=W) (u:=.slice b4' (pre.length+1) d4) (elI_ok f ts) ho he (fun _ _ _=>rfl) b4 (by omega) (by omega) (by omega) kb rfl (show ElI f ts _ wa _ pre.length from ⟨y.a1,y.c1,y.a2,y.c2,y.a3,y.c3,⟨by rw [← hI.k];rfl,by rw [← hI.b];rfl,by rw [← hI.n1];rfl,by rw [← hI.n2];rfl,by rw [← hI.c];rfl,by rw [← hI.n3];rfl⟩,hI.v⟩) hr hgr hvo;obtain ⟨t1,t2,t3,t4⟩:=hrr;have BN:=boxA_grown ((b1.below kb lO).below (below_alloc wa _) (by have:=kb.size;omega)) hgr (fun h=>by have:=(row_own ho _ h).1;omega);have BWN:=boxA_o (boxA_grown ((b3.below kb b3.lt).below (below_alloc wa _) (by have:=kb.size;have:=b3.lt;omega)) hgr (fun h=>by have:=(row_own ho _ h).1;omega)) (p:=⟨w.heap.size+1,0,none⟩) (show w.heap.size+1≠w.heap.size by omega) (.slice b4' (pre.length+1) d4);have hO1:KeepsOthers W wa:=⟨kb.size,fun q o hq _=>(kb.block q (Array.getElem?_eq_some_iff.1 hq).1).trans hq⟩;have hO2:=(hO1.trans (KeepsOthers.alloc wa (.cells #[.int .u8 y.k,.bool y.b,.slice y.a1 y.n1 y.c1,.slice y.a2 y.n2 y.c2,.int .i32 y.c,.slice y.a3 y.n3 y.c3] 68))).trans ((KeepsOthers.of_grownBy hgr (fun j o e ho'=>by
   have hz:=row_below ho kb (Nat.le_refl _) |>.alloc (.cells #[.int .u8 y.k,.bool y.b,.slice y.a1 y.n1 y.c1,.slice y.a2 y.n2 y.c2,.int .i32 y.c,.slice y.a3 y.n3 y.c3] 68)
   obtain ⟨o',ho2,hc⟩:=row_isC hz j e;rw [ho'] at ho2;cases ho2;exact hc)).trans (KeepsOthers.setCell w2 ⟨w.heap.size+1,0,none⟩ (.slice b4' (pre.length+1) d4)))
  have kB:Below w.heap.size W (w2.setCell ⟨w.heap.size+1,0,none⟩ (.slice b4' (pre.length+1) d4)):=by
   refine ((((kb.mono (by omega)).trans ((below_alloc wa _).mono (by have:=kb.size;omega)))).grown hgr ?_ ?_).setCell (p:=⟨w.heap.size+1,0,none⟩) (show w.heap.size≤w.heap.size+1 by omega) _
   · have:=kb.size;simp;omega
   · intro q e;have:=(row_own ho q e).1;omega
  refine ⟨rfl,hO2.from _,⟨kB,hO2.walks⟩,b4',d4,?_,?_,BWN,t2⟩
  · rw [hlen];exact boxA_p1 BN _
  · rw [hlen];exact t1
 case done=>
  rintro D xs W hD hxs ⟨a,c,b1,b2,b3,b4⟩ hK;have hl:=hSl xs W hxs;rw [hl] at b1 b2;have cO:=b1.cell 0 rfl;have sb:=b4.size
  gi_wp2
  have hDW:D<W.heap.size:=(Array.getElem?_eq_some_iff.1 hK).1;refine ⟨by simp,.inl ⟨_,_,rfl,run_takeDeferred hK,?_⟩⟩;have hgp:=grownBy_putObj' W D (.deferred none);have hr:=rowI_grown b2 hgp (fun k e=>by cases e;exact ⟨_,hK,rfl⟩);refine ⟨.slice a ts.length c,by simp [results,Tryz.results24,go_sem],a,c,rfl,rowB_I hr (fun q h1 h2=>⟨by omega,h2⟩),b4.grown hgp sb (fun k e=>by cases e;omega)⟩
end
section
open Go.RowKit
theorem copyInts_any {D:Nat→Prop} {w:World} {a1:Option Addr} {c1:Nat} {ns:List Int} (h1:RdN D w (.slice a1 ns.length c1) ns) (l1:ns.length*8≤140737488355328) :
    Calls Tryz.prog 23 #[.slice a1 ns.length c1] w fun e w'=>∃ x1 y1,e=.returned (.slice x1 ns.length y1)∧RdN (Fr w.heap.size w'.heap.size) w' (.slice x1 ns.length y1) ns∧Below w.heap.size w w':=by
 go_enter Tryz.func23,Tryz.ntmps23
 go_wp2_with (at_builtin;refine append_nilN rfl _ _ rfl rfl rfl h1 l1 ?_)
 intro x1 y1 w2 o1 k1;go_wp2
 go_ret
 exact ⟨x1,y1,rfl,o1,k1⟩
theorem values_any {w:World} {a:Option Addr} {n c:Nat}:Calls Tryz.prog 78 #[.slice a n c] w fun e w'=>e=.returned (.func (.func 129) #[] #[.pointer (some ⟨w.heap.size,0,none⟩)])∧w'=w.alloc (.cells #[.slice a n c] 22):=by
 go_enter Tryz.func78,Tryz.ntmps78;go_wp2
 go_ret
 exact ⟨rfl,rfl⟩
/-- A box: its one array lies in block k. -/
theorem box_any {w:World} {a1 a2:Option Addr} {n1 c1 n2 c2:Nat}:Calls Tryz.prog 42 #[.agg #[.slice a1 n1 c1,.slice a2 n2 c2]] w fun e w'=>∃ k,e=.returned (.agg #[.int .u8 3,.bool false,.slice none 0 0,.slice none 0 0,.int .i32 0,.slice (some ⟨k,0,none⟩) 1 1])∧w.heap.size≤k∧BoxA w' k 25 #[.slice a1 n1 c1,.slice a2 n2 c2]∧Below w.heap.size w w':=by
 have g1:=(Below.refl w.heap.size w).alloc (Nat.le_refl _) (.cells #[.slice a1 n1 c1,.slice a2 n2 c2] 25);have g2:=g1.alloc (by simp) (.cells #[.int .u8 3,.bool false,.slice none 0 0,.slice none 0 0,.int .i32 0,.slice (some ⟨w.heap.size+1+1,0,none⟩) 1 1] 68);have g3:=g2.alloc (by simp;omega) (.cells #[.slice a1 n1 c1,.slice a2 n2 c2] 25);have hk:=boxA_new ((w.alloc (.cells #[.slice a1 n1 c1,.slice a2 n2 c2] 25)).alloc (.cells #[.int .u8 3,.bool false,.slice none 0 0,.slice none 0 0,.int .i32 0,.slice (some ⟨w.heap.size+1+1,0,none⟩) 1 1] 68)) #[.slice a1 n1 c1,.slice a2 n2 c2] 25;rw [World.size_alloc,World.size_alloc] at hk;have hb:=boxA_new (w.alloc (.cells #[.slice a1 n1 c1,.slice a2 n2 c2] 25)) #[.int .u8 3,.bool false,.slice none 0 0,.slice none 0 0,.int .i32 0,.slice (some ⟨w.heap.size+1+1,0,none⟩) 1 1] 68;have hb2:=hb.below (below_alloc _ (.cells #[.slice a1 n1 c1,.slice a2 n2 c2] 25)) (by simp);rw [World.size_alloc] at hb2;go_enter Tryz.func42,Tryz.ntmps42;go_wp2
 have r0:=hb2.cell 0 rfl;have r1:=hb2.cell 1 rfl;have r2:=hb2.cell 2 rfl;have r3:=hb2.cell 3 rfl;have r4:=hb2.cell 4 rfl;have r5:=hb2.cell 5 rfl;refine bodyPost_ret (v:=.agg #[.int .u8 3,.bool false,.slice none 0 0,.slice none 0 0,.int .i32 0,.slice (some ⟨w.heap.size+1+1,0,none⟩) 1 1]) (by simp [results,Tryz.results42,go_sem,r0,r1,r2,r3,r4,r5]) rfl ?_;exact ⟨_,rfl,by omega,hk,g3⟩
/-- What the work makes of each item. -/
def WorkC (f:Nat) (D:Nat→Prop) (l l':List Tr):Prop:=∀ j x W,j<l.length→IsIt f D W x (l.getD j tr0)→(∀ g,D g→g<W.heap.size)→Calls Tryz.prog 19 #[.agg #[.int .u8 x.k,.bool x.b,.slice x.a1 x.n1 x.c1,.slice x.a2 x.n2 x.c2,.int .i32 x.c,.slice x.a3 x.n3 x.c3]] W fun e w'=>∃ y:IV,e=.returned (.agg #[.int .u8 y.k,.bool y.b,.slice y.a1 y.n1 y.c1,.slice y.a2 y.n2 y.c2,.int .i32 y.c,.slice y.a3 y.n3 y.c3])∧IsIt f (Fr W.heap.size w'.heap.size) w' y (l'.getD j tr0)∧Below W.heap.size W w'
section
variable {w:World} {f:Nat} {D:Nat→Prop} {a2:Option Addr} {c2 Bn:Nat} {l l':List Tr}
theorem eachValC (hB:BoxA w Bn 22 #[.slice a2 l.length c2]) (hR:RowB D l.length (.slice a2 l.length c2) (fun g o j=>ItC (ArV f D w) D w g (o+j*6) (l.getD j tr0))) (hD:∀ g,D g→g<w.heap.size) (hs:l.length*96≤140737488355328) (hl:l'.length=l.length) (hwk:WorkC f D l l') :
    Calls Tryz.prog 24 #[.func (.func 19) #[] #[],.func (.func 129) #[] #[.pointer (some ⟨Bn,0,none⟩)]] w fun e w'=>∃ a c,e=.returned (.slice a l.length c)∧RowB (Fr w.heap.size w'.heap.size) l.length (.slice a l.length c) (fun g o j=>ItC (ArV f (Fr w.heap.size w'.heap.size) w') (Fr w.heap.size w'.heap.size) w' g (o+j*6) (l'.getD j tr0))∧Below w.heap.size w w':=by
 obtain ⟨L,hL,hRL,hI⟩:=row_iv hR;have hp:=values_pays (w:=w) (D:=D) (a2:=a2) (c2:=c2) (L:=L) (Bn:=Bn) (n₀:=w.heap.size) 5 (by omega) hB.lt (Nat.le_refl _) (by rw [hL];exact hB) (by rw [← hL] at hRL;exact hRL) hD;refine (eachC_any (f:=f) (ts:=l') (enters_of Tryz.func129 (by kernel_rfl) rfl) hp ?_ ?_ ?_ ?_ (by omega) ?_).mono ?_
 · rintro s A B row ⟨h1,h2⟩ hg hrow
   exact ⟨h1,h2.grown hg h2.size (fun k e=>(hrow k e).1)⟩
 · rintro pre x _ A B row ⟨h1,h2⟩ hg hrow
   exact ⟨h1,h2.grown hg h2.size (fun k e=>(hrow k e).1)⟩
 · rintro pre x W ⟨h1,_⟩
   have:=(pre_next (d:=iv0) h1).1;omega
 · rintro xs W ⟨h1,_⟩
   rw [h1,hL,hl]
 · rintro pre x W ⟨h1,h2⟩
   obtain ⟨h3,h4⟩:=pre_next (d:=iv0) h1;have hi:=(hI pre.length (by omega)).agree (Agree.of h2 hD);rw [← h4] at hi;exact hwk pre.length x W (by omega) hi (fun g hg=>Nat.lt_of_lt_of_le (hD g hg) h2.size)
 · rintro e w' ⟨a,c,rfl,h1,h2⟩
   rw [hl] at h1;exact ⟨a,c,by rw [hl],h1,h2⟩
end
section
variable {w:World} {f:Nat} {D:Nat→Prop} {x1:Option Addr} {y1:Nat} {x2:Option Addr} {y2:Nat} {t t':Tr}
theorem throughC_any (h:ArV (f+1) D w (.slice x1 t.ns.length y1) (.slice x2 t.kids.length y2) t) (hD:∀ g,D g→g<w.heap.size) (hs1:t.ns.length*8≤140737488355328) (hs2:t.kids.length*96≤140737488355328) (hns:t'.ns=t.ns) (hkl:t'.kids.length=t.kids.length) (hwk:WorkC f D t.kids t'.kids) :
    Calls Tryz.prog 43 #[.func (.func 19) #[] #[],.agg #[.slice x1 t.ns.length y1,.slice x2 t.kids.length y2]] w fun e w'=>∃ z1 u1 z2 u2,e=.returned (.agg #[.slice z1 t.ns.length u1,.slice z2 t.kids.length u2])∧ArV (f+1) (Fr w.heap.size w'.heap.size) w' (.slice z1 t.ns.length u1) (.slice z2 t.kids.length u2) t'∧Below w.heap.size w w':=by
 have X0:=boxA_new w #[.slice x1 t.ns.length y1,.slice x2 t.kids.length y2] 25;have k0:=below_alloc w (.cells #[.slice x1 t.ns.length y1,.slice x2 t.kids.length y2] 25);have k1:=below_alloc (w.alloc (.cells #[.slice x1 t.ns.length y1,.slice x2 t.kids.length y2] 25)) (.cells #[.slice none 0 0,.slice none 0 0] 25);have R:=boxA_new (w.alloc (.cells #[.slice x1 t.ns.length y1,.slice x2 t.kids.length y2] 25)) #[.slice none 0 0,.slice none 0 0] 25;rw [World.size_alloc] at R;have X:=X0.below k1 (by simp);have g:Below w.heap.size w _:=k0.trans (k1.mono (by simp));have sv:((w.alloc (.cells #[.slice x1 t.ns.length y1,.slice x2 t.kids.length y2] 25)).alloc (.cells #[.slice none 0 0,.slice none 0 0] 25)).heap.size=w.heap.size+1+1:=by simp
 have H:Hid (ArV (f+1) D w (.slice x1 t.ns.length y1) (.slice x2 t.kids.length y2) t):=h;have HD:Hid (∀ g,D g→g<w.heap.size):=hD;have HW:Hid (WorkC f D t.kids t'.kids):=hwk;have HN:Hid (t'.ns=t.ns):=hns;have HL:Hid (t'.kids.length=t.kids.length):=hkl;clear h hD hwk hns hkl;go_enter Tryz.func43,Tryz.ntmps43
 go_upto_region 1 with fail
 generalize hA:(w.alloc (.cells #[.slice x1 t.ns.length y1,.slice x2 t.kids.length y2] 25)).alloc (.cells #[.slice none 0 0,.slice none 0 0] 25)=v at *;clear hA k0 k1 X0;have lx:w.heap.size<v.heap.size:=by omega
 have lr:w.heap.size+1<v.heap.size:=by omega
 have hcells:∀ {w':World},Below v.heap.size v w'→w'.cell? ⟨w.heap.size,0,none⟩=some (.slice x1 t.ns.length y1)∧w'.cell? ⟨w.heap.size,1,none⟩=some (.slice x2 t.kids.length y2):=fun hb=>⟨(X.below hb lx).cell 0 rfl,(X.below hb lx).cell 1 rfl⟩;have d0:Below v.heap.size v v.drew:=⟨rfl,rfl,rfl,Nat.le_refl _,fun _ _=>rfl⟩;have j0:=hcells d0;have C0:∀ {w':World},Below v.heap.size v w'→Calls Tryz.prog 23 #[.slice x1 t.ns.length y1] w' _:=fun {w'} k=>copyInts_any (H.out.1.imp (fun _ h=>h) (Agree.of (g.trans (k.mono (by omega))) HD.out)) hs1;have HC:Hid (∀ {w':World},Below v.heap.size v w'→w'.cell? ⟨w.heap.size,0,none⟩=some (.slice x1 t.ns.length y1)∧w'.cell? ⟨w.heap.size,1,none⟩=some (.slice x2 t.kids.length y2)):=hcells;have K0:Hid (∀ {w':World},Below v.heap.size v w'→Calls Tryz.prog 23 #[.slice x1 t.ns.length y1] w' _):=C0;clear hcells C0
 go_region_held3 (fun w'=>w'.cell? ⟨w.heap.size,0,none⟩=some (.slice x1 t.ns.length y1)∧w'.cell? ⟨w.heap.size,1,none⟩=some (.slice x2 t.kids.length y2))
  (first | exact j3 | exact j2 | exact j1 | exact j0 | (go_keep;done))
  (first
   | (have p:=k2;go_at_call 24;refine (eachValC (f:=f) (D:=D) (l:=t.kids) (l':=t'.kids) (Bn:=w1.heap.size) (boxA_new w1 _ _) (RowB.imp H.out.2 (fun _ h=>h) (fun g' o j hg hj hc=>hc.imp hg (fun _ h=>h) (Agree.of (g.trans (k2.mono (by omega))) HD.out) (fun _ _ _ h=>h.agree (Agree.of (g.trans (k2.mono (by omega))) HD.out)))) (fun g' hg=>by have:=HD.out g' hg;have:=k2.size;omega) hs2 HL.out HW.out).mono ?_;rintro e w3 ⟨z2,u2,rfl,hr,q3⟩;have k3:Below v.heap.size v w3:=k2.trans (q3.mono k2.size);have j3:=HC.out k3;have HR:Hid (RowB (Fr (w1.alloc (.cells #[.slice x2 t.kids.length y2] 22)).heap.size w3.heap.size) t.kids.length (.slice z2 t.kids.length u2) (fun g o j=>ItC (ArV f (Fr (w1.alloc (.cells #[.slice x2 t.kids.length y2] 22)).heap.size w3.heap.size) w3) (Fr (w1.alloc (.cells #[.slice x2 t.kids.length y2] 22)).heap.size w3.heap.size) w3 g (o+j*6) (t'.kids.getD j tr0))):=hr;have R3:=R.below k3 lr;have q0:=R3.cell 0 rfl;have q1:=R3.cell 1 rfl;have p0:=R3.frozen 0;have p1:=R3.frozen 1;clear hr)
   | (have p:=k1;go_at_call 78;refine (values_any).mono ?_;rintro e w2 ⟨rfl,rfl⟩;have k2:Below v.heap.size v (w1.alloc (.cells #[.slice x2 t.kids.length y2] 22)):=k1.trans ((below_alloc w1 _).mono k1.size);have j2:=HC.out k2)
   | (go_at_call 23;refine (K0.out d0).mono ?_;rintro e w1 ⟨z1,u1,rfl,hn,q1⟩;have k1:Below v.heap.size v w1:=d0.trans (q1.mono d0.size);have j1:=HC.out k1;have HNN:Hid (RdN (Fr v.heap.size w1.heap.size) w1 (.slice z1 t.ns.length u1) t.ns):=hn;clear hn))
 all_goals
  go_wp2
  have Rd2:=R3.set2 (.slice z1 t.ns.length u1) (.slice z2 t.kids.length u2);have r0:=Rd2.cell 0 rfl;have r1:=Rd2.cell 1 rfl;refine bodyPost_ret (v:=.agg #[.slice z1 t.ns.length u1,.slice z2 t.kids.length u2]) (by simp [results,Tryz.results43,go_sem,r0,r1]) rfl ?_;have s1:=k1.size;have s3:=q3.size;rw [World.size_alloc] at s3;refine ⟨z1,u1,z2,u2,rfl,?_,Below.set2 (g.trans (k3.mono (by omega))) (by omega) _ _⟩;have ho:∀ g',v.heap.size≤g'→((w3.setCell ⟨w.heap.size+1,0,none⟩ (.slice z1 t.ns.length u1)).setCell ⟨w.heap.size+1,1,none⟩ (.slice z2 t.kids.length u2)).heap[g']? = w3.heap[g']?:=fun g' hg=>by
   rw [set1_other (by show ¬ w.heap.size+1=g';omega),set1_other (by show ¬ w.heap.size+1=g';omega)]
  refine ⟨?_,?_⟩
  · rw [HN.out]
    refine HNN.out.imp ?_ ?_
    · rintro g' ⟨q1,q2⟩;exact ⟨by omega,by rw [set1_size,set1_size];omega⟩
    · rintro g' ⟨q1,q2⟩
      rw [ho g' q1,q3.block g' (by rw [World.size_alloc];omega),(below_alloc w1 _).block g' q2]
  · rw [HL.out]
    have hag:Agree (Fr (w1.alloc (.cells #[.slice x2 t.kids.length y2] 22)).heap.size w3.heap.size) w3 ((w3.setCell ⟨w.heap.size+1,0,none⟩ (.slice z1 t.ns.length u1)).setCell ⟨w.heap.size+1,1,none⟩ (.slice z2 t.kids.length u2)):=by
     rintro g' ⟨q1,q2⟩;rw [World.size_alloc] at q1;exact ho g' (by omega)
    have hm:∀ g',Fr (w1.alloc (.cells #[.slice x2 t.kids.length y2] 22)).heap.size w3.heap.size g'→Fr w.heap.size ((w3.setCell ⟨w.heap.size+1,0,none⟩ (.slice z1 t.ns.length u1)).setCell ⟨w.heap.size+1,1,none⟩ (.slice z2 t.kids.length u2)).heap.size g':=by
     rintro g' ⟨q1,q2⟩;rw [World.size_alloc] at q1;exact ⟨by omega,by rw [set1_size,set1_size];omega⟩
    exact RowB.imp HR.out hm (fun g' o j hg hj hc=>hc.imp hg hm hag (fun _ _ _ h=>ArV.imp hm hag f f _ _ _ (Nat.le_refl _) h))
end
section
variable {ch:Int} {a3:Option Addr} {n3 c3:Nat} {w:World} {b:Bool} {a1 a2:Option Addr} {c1 c2:Nat} {ns ds:List Int}
theorem copyOf_numG (h1:Rd w.heap.size w (.slice a1 ns.length c1) ns) (h2:Rd w.heap.size w (.slice a2 ds.length c2) ds) (l1:ns.length*4≤140737488355328) (l2:ds.length*4≤140737488355328) :
    Calls Tryz.prog 19 #[.agg #[.int .u8 1,.bool b,.slice a1 ns.length c1,.slice a2 ds.length c2,.int .i32 ch,.slice a3 n3 c3]] w fun e w'=>∃ x1 y1 x2 y2,e=.returned (.agg #[.int .u8 1,.bool b,.slice x1 ns.length y1,.slice x2 ds.length y2,.int .i32 0,.slice none 0 0])∧Own w.heap.size w' (.slice x1 ns.length y1) ns∧Own w.heap.size w' (.slice x2 ds.length y2) ds∧Below w.heap.size w w':=by
 have X0:=boxA_new w #[.int .u8 1,.bool b,.slice a1 ns.length c1,.slice a2 ds.length c2,.int .i32 ch,.slice a3 n3 c3] 68;have k0:=below_alloc w (.cells #[.int .u8 1,.bool b,.slice a1 ns.length c1,.slice a2 ds.length c2,.int .i32 ch,.slice a3 n3 c3] 68);have k1:=below_alloc (w.alloc (.cells #[.int .u8 1,.bool b,.slice a1 ns.length c1,.slice a2 ds.length c2,.int .i32 ch,.slice a3 n3 c3] 68)) (.cells #[.int .u8 0,.bool false,.slice none 0 0,.slice none 0 0,.int .i32 0,.slice none 0 0] 68);have R:=boxA_new (w.alloc (.cells #[.int .u8 1,.bool b,.slice a1 ns.length c1,.slice a2 ds.length c2,.int .i32 ch,.slice a3 n3 c3] 68)) #[.int .u8 0,.bool false,.slice none 0 0,.slice none 0 0,.int .i32 0,.slice none 0 0] 68;rw [World.size_alloc] at R;have X:=X0.below k1 (by simp);have g:Below w.heap.size w _:=k0.trans (k1.mono (by simp));have sv:((w.alloc (.cells #[.int .u8 1,.bool b,.slice a1 ns.length c1,.slice a2 ds.length c2,.int .i32 ch,.slice a3 n3 c3] 68)).alloc (.cells #[.int .u8 0,.bool false,.slice none 0 0,.slice none 0 0,.int .i32 0,.slice none 0 0] 68)).heap.size=w.heap.size+1+1:=by simp
 replace h1:=h1.below g;replace h2:=h2.below g;have X0':=X.cell 0 rfl;have X1:=X.cell 1 rfl;have X2:=X.cell 2 rfl;have X3:=X.cell 3 rfl;go_enter Tryz.func19,Tryz.ntmps19
 go_upto_region 6 with fail
 generalize hA:(w.alloc (.cells #[.int .u8 1,.bool b,.slice a1 ns.length c1,.slice a2 ds.length c2,.int .i32 ch,.slice a3 n3 c3] 68)).alloc (.cells #[.int .u8 0,.bool false,.slice none 0 0,.slice none 0 0,.int .i32 0,.slice none 0 0] 68)=v at *;clear hA k0 k1 X0;have hcells:∀ {w':World},Below v.heap.size v w'→w'.cell? ⟨w.heap.size,1,none⟩=some (.bool b)∧w'.cell? ⟨w.heap.size,2,none⟩=some (.slice a1 ns.length c1)∧w'.cell? ⟨w.heap.size,3,none⟩=some (.slice a2 ds.length c2):=fun hb=>by
  exact ⟨(X.below hb (by omega)).cell 1 rfl,(X.below hb (by omega)).cell 2 rfl,(X.below hb (by omega)).cell 3 rfl⟩
 have d0:Below v.heap.size v v.drew:=⟨rfl,rfl,rfl,Nat.le_refl _,fun _ _=>rfl⟩;have h1':Rd v.drew.heap.size v.drew (.slice a1 ns.length c1) ns:=h1.mono (by simp;omega);have h2':Rd v.heap.size v (.slice a2 ds.length c2) ds:=h2.mono (by omega)
 go_region_held3 (fun w'=>w'.cell? ⟨w.heap.size,1,none⟩=some (.bool b)∧w'.cell? ⟨w.heap.size,2,none⟩=some (.slice a1 ns.length c1)∧w'.cell? ⟨w.heap.size,3,none⟩=some (.slice a2 ds.length c2))
  (first | (go_keep;done) | exact tw | exact tw2 | exact tw3)
  (first
   | (have j:=tw2;go_at_call 31;refine number_any.mono ?_;rintro e wc ⟨rfl,kc⟩;have tc:Below v.heap.size v wc:=tb.trans (kc.mono tb.size);have tw3:=hcells tc;have Rc:=R.below tc (by omega);have q0:=Rc.cell 0 rfl;have q1:=Rc.cell 1 rfl;have q2:=Rc.cell 2 rfl;have q3:=Rc.cell 3 rfl;have q4:=Rc.cell 4 rfl;have q5:=Rc.cell 5 rfl;have p0:=Rc.frozen 0;have p1:=Rc.frozen 1;have p2:=Rc.frozen 2;have p3:=Rc.frozen 3;have p4:=Rc.frozen 4;have p5:=Rc.frozen 5)
   | (have j:=tw;go_at_call 45;refine (copyLimbs_any ((h2'.below ka).mono ka.size) l2).mono ?_;rintro e wb ⟨x2,y2,rfl,o2,kb⟩;have tb:Below v.heap.size v wb:=ka.trans (kb.mono ka.size);have tw2:=hcells tb;have o1b:=o1.below kb (Nat.le_refl _))
   | (go_at_call 45;refine (copyLimbs_any h1' l1).mono ?_;rintro e wa ⟨x1,y1,rfl,o1,ka'⟩;have ka:Below v.heap.size v wa:=d0.trans (ka'.mono d0.size);have tw:=hcells ka))
 all_goals
  go_wp2
  have Rd6:=Rc.set6 (.int .u8 1) (.bool b) (.slice x1 ns.length y1) (.slice x2 ds.length y2) (.int .i32 0) (.slice none 0 0);obtain ⟨r0,r1,r2,r3,r4,r5⟩:=Rd6.num;refine bodyPost_ret (v:=.agg #[.int .u8 1,.bool b,.slice x1 ns.length y1,.slice x2 ds.length y2,.int .i32 0,.slice none 0 0]) (by simp [results,Tryz.results19,go_sem,r0,r1,r2,r3,r4,r5]) rfl ?_;refine ⟨x1,y1,x2,y2,rfl,?_,?_,Below.set6 (g.trans (tc.mono (by omega))) (by omega) _ _ _ _ _ _⟩
  · exact (((o1b.below kc (Nat.le_refl _)).mono (base':=v.heap.size) (by simp)).set6 (by omega) _ _ _ _ _ _).mono (by omega)
  · exact (((o2.below kc (Nat.le_refl _)).mono (base':=v.heap.size) ka.size).set6 (by omega) _ _ _ _ _ _).mono (by omega)
end
theorem character3_any (c:Int) (w:World):Calls Tryz.prog 44 #[.int .i32 c] w fun e w'=>e=.returned (.agg #[.int .u8 2,.bool false,.slice none 0 0,.slice none 0 0,.int .i32 c,.slice none 0 0])∧w'=w.alloc (.cells #[.int .u8 2,.bool false,.slice none 0 0,.slice none 0 0,.int .i32 c,.slice none 0 0] 68):=by
 have R:=boxA_new w #[.int .u8 2,.bool false,.slice none 0 0,.slice none 0 0,.int .i32 c,.slice none 0 0] 68;go_enter Tryz.func44,Tryz.ntmps44;go_wp2
 have r0:=R.cell 0 rfl;have r1:=R.cell 1 rfl;have r2:=R.cell 2 rfl;have r3:=R.cell 3 rfl;have r4:=R.cell 4 rfl;have r5:=R.cell 5 rfl;refine bodyPost_ret (v:=.agg #[.int .u8 2,.bool false,.slice none 0 0,.slice none 0 0,.int .i32 c,.slice none 0 0]) (by simp [results,Tryz.results44,go_sem,r0,r1,r2,r3,r4,r5]) rfl ?_;exact ⟨rfl,rfl⟩
section
variable {ch:Int} {a1 a2 a3:Option Addr} {n1 n2 n3 c1 c2 c3:Nat} {w:World} {b:Bool}
theorem copyOf_ch:Calls Tryz.prog 19 #[.agg #[.int .u8 2,.bool b,.slice a1 n1 c1,.slice a2 n2 c2,.int .i32 ch,.slice a3 n3 c3]] w fun e w'=>e=.returned (.agg #[.int .u8 2,.bool false,.slice none 0 0,.slice none 0 0,.int .i32 ch,.slice none 0 0])∧Below w.heap.size w w':=by
 have X0:=boxA_new w #[.int .u8 2,.bool b,.slice a1 n1 c1,.slice a2 n2 c2,.int .i32 ch,.slice a3 n3 c3] 68;have k0:=below_alloc w (.cells #[.int .u8 2,.bool b,.slice a1 n1 c1,.slice a2 n2 c2,.int .i32 ch,.slice a3 n3 c3] 68);have k1:=below_alloc (w.alloc (.cells #[.int .u8 2,.bool b,.slice a1 n1 c1,.slice a2 n2 c2,.int .i32 ch,.slice a3 n3 c3] 68)) (.cells #[.int .u8 0,.bool false,.slice none 0 0,.slice none 0 0,.int .i32 0,.slice none 0 0] 68);have R:=boxA_new (w.alloc (.cells #[.int .u8 2,.bool b,.slice a1 n1 c1,.slice a2 n2 c2,.int .i32 ch,.slice a3 n3 c3] 68)) #[.int .u8 0,.bool false,.slice none 0 0,.slice none 0 0,.int .i32 0,.slice none 0 0] 68;rw [World.size_alloc] at R;have X:=X0.below k1 (by simp);have g:Below w.heap.size w _:=k0.trans (k1.mono (by simp));have sv:((w.alloc (.cells #[.int .u8 2,.bool b,.slice a1 n1 c1,.slice a2 n2 c2,.int .i32 ch,.slice a3 n3 c3] 68)).alloc (.cells #[.int .u8 0,.bool false,.slice none 0 0,.slice none 0 0,.int .i32 0,.slice none 0 0] 68)).heap.size=w.heap.size+1+1:=by simp
 have X0':=X.cell 0 rfl;have X4:=X.cell 4 rfl;go_enter Tryz.func19,Tryz.ntmps19
 go_wp2_with fail
 generalize hA:(w.alloc (.cells #[.int .u8 2,.bool b,.slice a1 n1 c1,.slice a2 n2 c2,.int .i32 ch,.slice a3 n3 c3] 68)).alloc (.cells #[.int .u8 0,.bool false,.slice none 0 0,.slice none 0 0,.int .i32 0,.slice none 0 0] 68)=v at *;clear hA k0 k1 X0;refine (character3_any ch _).mono ?_;rintro e w1 ⟨rfl,hw⟩;have kx:=below_alloc v (.cells #[.int .u8 2,.bool false,.slice none 0 0,.slice none 0 0,.int .i32 ch,.slice none 0 0] 68);rw [← hw] at kx;clear hw;have Rc:=R.below kx (by omega);have q0:=Rc.cell 0 rfl;have q1:=Rc.cell 1 rfl;have q2:=Rc.cell 2 rfl;have q3:=Rc.cell 3 rfl;have q4:=Rc.cell 4 rfl;have q5:=Rc.cell 5 rfl;have p0:=Rc.frozen 0;have p1:=Rc.frozen 1;have p2:=Rc.frozen 2;have p3:=Rc.frozen 3;have p4:=Rc.frozen 4;have p5:=Rc.frozen 5;go_wp2
 have Rd6:=Rc.set6 (.int .u8 2) (.bool false) (.slice none 0 0) (.slice none 0 0) (.int .i32 ch) (.slice none 0 0);have r0:=Rd6.cell 0 rfl;have r1:=Rd6.cell 1 rfl;have r2:=Rd6.cell 2 rfl;have r3:=Rd6.cell 3 rfl;have r4:=Rd6.cell 4 rfl;have r5:=Rd6.cell 5 rfl
 try simp only [Exit.inBlock,Exit.then]
 refine bodyPost_ret (v:=.agg #[.int .u8 2,.bool false,.slice none 0 0,.slice none 0 0,.int .i32 ch,.slice none 0 0]) ?_ rfl ?_
 · simp [results,Tryz.results19,go_sem,r0,r1,r2,r3,r4,r5]
 exact ⟨rfl,Below.set6 (g.trans (kx.mono (by omega))) (by omega) _ _ _ _ _ _⟩
end
/-- What a right item is. -/
theorem measI_cases {M:Tr→Option (Int×Int)} {t:Tr} (h:(measI M t).isSome=true):(t.k=1∧RightP t.b t.ns t.ds∧t.c=0∧t.kids.length=0)∨(t.k=2∧okR t.c∧noneB t=true∧t.kids.length=0)∨(t.k=3∧noneB t=true∧t.c=0∧t.kids.length=1∧simpB (t.kids.getD 0 tr0)=false∧(M (t.kids.getD 0 tr0)).isSome=true):=by
 by_cases h1:t.k=1
 · by_cases hg:RightP t.b t.ns t.ds∧t.c=0∧t.kids.length=0
   · exact Or.inl ⟨h1,hg⟩
   · rw [measI_num_no h1 hg] at h;cases h
 by_cases h2:t.k=2
 · by_cases hg:okR t.c∧noneB t=true∧t.kids.length=0
   · exact Or.inr (Or.inl ⟨h2,hg⟩)
   · rw [measI_ch_no h2 hg] at h;cases h
 by_cases h3:t.k=3
 · by_cases hg:noneB t=true∧t.c=0∧t.kids.length=1∧simpB (t.kids.getD 0 tr0)=false
   · rw [measI_box h3 hg] at h
     exact Or.inr (Or.inr ⟨h3,hg.1,hg.2.1,hg.2.2.1,hg.2.2.2,h⟩)
   · rw [measI_box_no h3 hg] at h;cases h
 rw [measI_else h1 h2 h3] at h;cases h
theorem noneB_is {t:Tr} (h:noneB t=true):t.b=false∧t.ns.length=0∧t.ds.length=0:=by
 unfold noneB at h;simp only [Bool.and_eq_true,Bool.not_eq_true',decide_eq_true_eq] at h;exact ⟨h.1.1,h.1.2,h.2⟩
theorem measL_all {I:Tr→Option (Int×Int)}:∀ (l:List Tr) (w p:Int×Int),measL I l w=some p→∀ x∈l,(I x).isSome=true
 | [],_,_,_,_,hx=>by cases hx
 | t :: r,w,p,h,x,hx=>by
  rw [measL] at h
  cases hi:I t with
  | none=>rw [hi] at h;simp at h
  | some q=>
   rw [hi] at h;by_cases hc:16384<w.2+q.2
   · simp only [hc,if_true] at h;cases h
   · simp only [hc,if_false] at h
     rcases List.mem_cons.1 hx with rfl | hx
     · rw [hi];rfl
     · exact measL_all r _ p h x hx
theorem size_rank {sh:List Int} (h:(sizeF sh).2=0):sh.length≤8:=by
 unfold sizeF at h;by_cases h8:8<sh.length
 · rw [if_pos h8] at h;cases h
 · omega
/-- What a right array is. -/
theorem measF_some {L:Nat} {t:Tr} (h:(measF L t).isSome=true):∃ L',L=L'+1∧t.ns.length≤8∧(sizeF t.ns).2=0∧(t.kids.length:Int)=max (sizeF t.ns).1 1∧t.kids.length≤4096∧∀ x∈t.kids,(measI (measF L') x).isSome=true:=by
 cases L with
 | zero=>rw [measF] at h;cases h
 | succ L=>
  refine ⟨L,rfl,?_⟩;by_cases hc:(sizeF t.ns).2=0∧(t.kids.length:Int)=max (sizeF t.ns).1 1
  · rw [measF_succ hc] at h
    have hin:=sizeF_in t.ns;refine ⟨size_rank hc.1,hc.1,hc.2,by have:=hc.2;omega,?_⟩
    cases hm:measL (measI (measF L)) t.kids (1,(t.kids.length:Int)) with
    | none=>rw [hm] at h;unfold finM at h;cases h
    | some p=>exact measL_all _ _ p hm
  · rw [measF,if_neg hc] at h;cases h
theorem getD_memI {l:List Tr} {j:Nat} (h:j<l.length):l.getD j tr0∈l:=by
 rw [List.getD_eq_getElem?_getD,List.getElem?_eq_getElem h];exact List.getElem_mem h
/-- Items without boxes. -/
theorem itv_none {P:Value→Value→Tr→Prop} {D:Nat→Prop} {w:World} {t:Tr} (h1:t.ns.length=0) (h2:t.ds.length=0) (h3:t.kids.length=0):ItV P D w none 0 none 0 none 0 t:=by
 have e1:t.ns=[]:=List.eq_nil_of_length_eq_zero h1;have e2:t.ds=[]:=List.eq_nil_of_length_eq_zero h2;refine ⟨?_,?_,?_⟩
 · rw [e1];exact ⟨lim_nil,none,0,rfl,Nat.le_refl _,by omega,fun _=>rfl,Or.inl rfl⟩
 · rw [e2];exact ⟨lim_nil,none,0,rfl,Nat.le_refl _,by omega,fun _=>rfl,Or.inl rfl⟩
 · rw [h3];exact ⟨none,0,rfl,Nat.le_refl _,by omega,fun _=>rfl,Or.inl rfl⟩
theorem isIt_num {f:Nat} {B:Nat} {w:World} {t:Tr} {x1 x2:Option Addr} {y1 y2:Nat} (hk:t.k=1) (hc:t.c=0) (h3:t.kids.length=0) (o1:Own B w (.slice x1 t.ns.length y1) t.ns) (o2:Own B w (.slice x2 t.ds.length y2) t.ds):IsIt f (Fr B w.heap.size) w ⟨1,t.b,x1,t.ns.length,y1,x2,t.ds.length,y2,0,none,0,0⟩ t:=
 ⟨hk.symm,rfl,rfl,rfl,hc.symm,h3.symm,RdL.of_own o1,RdL.of_own o2,by show RowB _ _ (.slice none t.kids.length 0) _;rw [h3];exact ⟨none,0,rfl,Nat.le_refl _,by omega,fun _=>rfl,Or.inl rfl⟩⟩
theorem isIt_ch {f:Nat} {D:Nat→Prop} {w:World} {t:Tr} (hk:t.k=2) (hb:t.b=false) (h1:t.ns.length=0) (h2:t.ds.length=0) (h3:t.kids.length=0):IsIt f D w ⟨2,false,none,0,0,none,0,0,t.c,none,0,0⟩ t:=
 ⟨hk.symm,hb.symm,h1.symm,h2.symm,rfl,h3.symm,itv_none h1 h2 h3⟩
/-- A box of an array in blocks of its own. -/
theorem isIt_box {f B k:Nat} {w w':World} {t a:Tr} {z1 z2:Option Addr} {m1 u1 m2 u2:Nat} (hk:t.k=3) (hb:t.b=false) (h1:t.ns.length=0) (h2:t.ds.length=0) (hc:t.c=0) (h3:t.kids.length=1) (ha:t.kids.getD 0 tr0=a) (hkB:B≤k) (hB:BoxA w' k 25 #[.slice z1 m1 u1,.slice z2 m2 u2]) (h:ArV f (Fr B w.heap.size) w (.slice z1 m1 u1) (.slice z2 m2 u2) a) (kb:Below w.heap.size w w'):IsIt f (Fr B w'.heap.size) w' ⟨3,false,none,0,0,none,0,0,0,some ⟨k,0,none⟩,1,1⟩ t:=by
 have e1:t.ns=[]:=List.eq_nil_of_length_eq_zero h1;have e2:t.ds=[]:=List.eq_nil_of_length_eq_zero h2;refine ⟨hk.symm,hb.symm,h1.symm,h2.symm,hc.symm,h3.symm,?_,?_,?_⟩
 · rw [e1];exact ⟨lim_nil,none,0,rfl,Nat.le_refl _,by omega,fun _=>rfl,Or.inl rfl⟩
 · rw [e2];exact ⟨lim_nil,none,0,rfl,Nat.le_refl _,by omega,fun _=>rfl,Or.inl rfl⟩
 · show RowB _ _ (.slice (some ⟨k,0,none⟩) t.kids.length 1) _
   rw [h3];refine ⟨_,1,rfl,Nat.le_refl _,by omega,(fun h=>by cases h),Or.inr ⟨k,0,rfl,⟨hkB,hB.lt⟩,fun j hj => ?_⟩⟩;obtain rfl:j=0:=by omega
   refine ⟨z1,m1,u1,z2,m2,u2,hB.cell 0 rfl,hB.cell 1 rfl,?_⟩;rw [ha];exact ArV.imp (fun g hg=>⟨hg.1,by have:=kb.size;have:=hg.2;omega⟩) (fun g hg=>kb.block g hg.2) f f _ _ _ (Nat.le_refl _) h
theorem boxA_o6 {w:World} {k B ty:Nat} {xs:Array Value} (h:BoxA w k ty xs) (hp:B≠k) (v0 v1 v2 v3 v4 v5:Value):BoxA ((((((w.setCell ⟨B,0,none⟩ v0).setCell ⟨B,1,none⟩ v1).setCell ⟨B,2,none⟩ v2).setCell ⟨B,3,none⟩ v3).setCell ⟨B,4,none⟩ v4).setCell ⟨B,5,none⟩ v5) k ty xs:=by
 unfold BoxA at h ⊢;rw [set6_other hp];exact h
theorem below_both1 {w w':World} {n:Nat} (h:Below n w w') (p:Addr) (v:Value):Below n (w.setCell p v) (w'.setCell p v):=
 ⟨h.os,h.tape,h.output,by rw [set1_size,set1_size];exact h.size,fun g hg=>by
  have:=h.block g hg;simp only [World.setCell,Array.getElem?_modify]
  split <;> simp [this]⟩
theorem below_both6 {w w':World} {B:Nat} (h:Below w.heap.size w w') (v0 v1 v2 v3 v4 v5:Value):Below ((((((w.setCell ⟨B,0,none⟩ v0).setCell ⟨B,1,none⟩ v1).setCell ⟨B,2,none⟩ v2).setCell ⟨B,3,none⟩ v3).setCell ⟨B,4,none⟩ v4).setCell ⟨B,5,none⟩ v5).heap.size ((((((w.setCell ⟨B,0,none⟩ v0).setCell ⟨B,1,none⟩ v1).setCell ⟨B,2,none⟩ v2).setCell ⟨B,3,none⟩ v3).setCell ⟨B,4,none⟩ v4).setCell ⟨B,5,none⟩ v5) ((((((w'.setCell ⟨B,0,none⟩ v0).setCell ⟨B,1,none⟩ v1).setCell ⟨B,2,none⟩ v2).setCell ⟨B,3,none⟩ v3).setCell ⟨B,4,none⟩ v4).setCell ⟨B,5,none⟩ v5):=by
 rw [set6_size];exact below_both1 (below_both1 (below_both1 (below_both1 (below_both1 (below_both1 h _ _) _ _) _ _) _ _) _ _) _ _
section
variable {f:Nat} {D:Nat→Prop} {w:World} {b:Bool} {a1 a2:Option Addr} {n1 n2 c1 c2 c3 g3 o3:Nat} {ch:Int} {x1:Option Addr} {y1:Nat} {x2:Option Addr} {y2:Nat} {a a':Tr}
theorem copyOf_box (hc0:w.cell? ⟨g3,o3,none⟩=some (.slice x1 a.ns.length y1)) (hc1:w.cell? ⟨g3,o3+1,none⟩=some (.slice x2 a.kids.length y2)) (lg:g3<w.heap.size) (h:ArV (f+1) D w (.slice x1 a.ns.length y1) (.slice x2 a.kids.length y2) a) (hD:∀ g,D g→g<w.heap.size) (hs1:a.ns.length*8≤140737488355328) (hs2:a.kids.length*96≤140737488355328) (hns:a'.ns=a.ns) (hkl:a'.kids.length=a.kids.length) (hwk:WorkC f D a.kids a'.kids) :
    Calls Tryz.prog 19 #[.agg #[.int .u8 3,.bool b,.slice a1 n1 c1,.slice a2 n2 c2,.int .i32 ch,.slice (some ⟨g3,o3,none⟩) 1 c3]] w fun e w'=>∃ k z1 u1 z2 u2 w1,e=.returned (.agg #[.int .u8 3,.bool false,.slice none 0 0,.slice none 0 0,.int .i32 0,.slice (some ⟨k,0,none⟩) 1 1])∧w.heap.size≤k∧BoxA w' k 25 #[.slice z1 a.ns.length u1,.slice z2 a.kids.length u2]∧ArV (f+1) (Fr w.heap.size w1.heap.size) w1 (.slice z1 a.ns.length u1) (.slice z2 a.kids.length u2) a'∧Below w1.heap.size w1 w'∧Below w.heap.size w w':=by
 have X0:=boxA_new w #[.int .u8 3,.bool b,.slice a1 n1 c1,.slice a2 n2 c2,.int .i32 ch,.slice (some ⟨g3,o3,none⟩) 1 c3] 68;have k0:=below_alloc w (.cells #[.int .u8 3,.bool b,.slice a1 n1 c1,.slice a2 n2 c2,.int .i32 ch,.slice (some ⟨g3,o3,none⟩) 1 c3] 68);have k1:=below_alloc (w.alloc (.cells #[.int .u8 3,.bool b,.slice a1 n1 c1,.slice a2 n2 c2,.int .i32 ch,.slice (some ⟨g3,o3,none⟩) 1 c3] 68)) (.cells #[.int .u8 0,.bool false,.slice none 0 0,.slice none 0 0,.int .i32 0,.slice none 0 0] 68);have R:=boxA_new (w.alloc (.cells #[.int .u8 3,.bool b,.slice a1 n1 c1,.slice a2 n2 c2,.int .i32 ch,.slice (some ⟨g3,o3,none⟩) 1 c3] 68)) #[.int .u8 0,.bool false,.slice none 0 0,.slice none 0 0,.int .i32 0,.slice none 0 0] 68;rw [World.size_alloc] at R;have X:=X0.below k1 (by simp);have g:Below w.heap.size w _:=k0.trans (k1.mono (by simp));have sv:((w.alloc (.cells #[.int .u8 3,.bool b,.slice a1 n1 c1,.slice a2 n2 c2,.int .i32 ch,.slice (some ⟨g3,o3,none⟩) 1 c3] 68)).alloc (.cells #[.int .u8 0,.bool false,.slice none 0 0,.slice none 0 0,.int .i32 0,.slice none 0 0] 68)).heap.size=w.heap.size+1+1:=by simp
 have X0':=X.cell 0 rfl;have X5:=X.cell 5 rfl;have e0:=(g.cell (p:=⟨g3,o3,none⟩) lg).trans hc0;have e1:=(g.cell (p:=⟨g3,o3+1,none⟩) lg).trans hc1;have T:=throughC_any (h.agree (Agree.of g hD)) (fun g' hg=>by have:=hD g' hg;omega) hs1 hs2 hns hkl hwk;clear h hD hwk hns hkl hc0 hc1;go_enter Tryz.func19,Tryz.ntmps19
 go_wp2_with fail
 generalize hA:(w.alloc (.cells #[.int .u8 3,.bool b,.slice a1 n1 c1,.slice a2 n2 c2,.int .i32 ch,.slice (some ⟨g3,o3,none⟩) 1 c3] 68)).alloc (.cells #[.int .u8 0,.bool false,.slice none 0 0,.slice none 0 0,.int .i32 0,.slice none 0 0] 68)=v at *;clear hA k0 k1 X0 X0' X5 e0 e1;refine T.mono ?_;rintro e w1 ⟨z1,u1,z2,u2,rfl,hv,q1⟩;clear T;have HV:Hid (ArV (f+1) (Fr v.heap.size w1.heap.size) w1 (.slice z1 a.ns.length u1) (.slice z2 a.kids.length u2) a'):=hv;clear hv
 go_wp2_with fail
 refine box_any.mono ?_;rintro e w2 ⟨k,rfl,hk,hB,q2⟩;have s1:=q1.size;have kx:Below v.heap.size v w2:=q1.trans (q2.mono s1);have Rc:=R.below kx (by omega);have q0:=Rc.cell 0 rfl;have q1':=Rc.cell 1 rfl;have q2':=Rc.cell 2 rfl;have q3:=Rc.cell 3 rfl;have q4:=Rc.cell 4 rfl;have q5:=Rc.cell 5 rfl;have p0:=Rc.frozen 0;have p1:=Rc.frozen 1;have p2:=Rc.frozen 2;have p3:=Rc.frozen 3;have p4:=Rc.frozen 4;have p5:=Rc.frozen 5;go_wp2
 have Rd6:=Rc.set6 (.int .u8 3) (.bool false) (.slice none 0 0) (.slice none 0 0) (.int .i32 0) (.slice (some ⟨k,0,none⟩) 1 1);have r0:=Rd6.cell 0 rfl;have r1:=Rd6.cell 1 rfl;have r2:=Rd6.cell 2 rfl;have r3:=Rd6.cell 3 rfl;have r4:=Rd6.cell 4 rfl;have r5:=Rd6.cell 5 rfl
 try simp only [Exit.inBlock,Exit.then]
 refine bodyPost_ret (v:=.agg #[.int .u8 3,.bool false,.slice none 0 0,.slice none 0 0,.int .i32 0,.slice (some ⟨k,0,none⟩) 1 1]) ?_ rfl ?_
 · simp [results,Tryz.results19,go_sem,r0,r1,r2,r3,r4,r5]
 have hne:w.heap.size+1≠k:=by omega
 refine ⟨k,z1,u1,z2,u2,(((((w1.setCell ⟨w.heap.size+1,0,none⟩ (.int .u8 3)).setCell ⟨w.heap.size+1,1,none⟩ (.bool false)).setCell ⟨w.heap.size+1,2,none⟩ (.slice none 0 0)).setCell ⟨w.heap.size+1,3,none⟩ (.slice none 0 0)).setCell ⟨w.heap.size+1,4,none⟩ (.int .i32 0)).setCell ⟨w.heap.size+1,5,none⟩ (.slice (some ⟨k,0,none⟩) 1 1),rfl,by omega,?_,?_,?_,Below.set6 (g.trans (kx.mono (by omega))) (by omega) _ _ _ _ _ _⟩
 · exact boxA_o6 hB hne _ _ _ _ _ _
 · refine ArV.imp ?_ ?_ (f+1) (f+1) _ _ _ (Nat.le_refl _) HV.out
   · rintro g' ⟨h1,h2⟩;exact ⟨by omega,by rw [set6_size];exact h2⟩
   · rintro g' ⟨h1,h2⟩;exact set6_other (by omega) _ _ _ _ _ _
 · exact below_both6 q2 _ _ _ _ _ _
end
/-- array.copyOf of a right item: the same in blocks of its own. -/
theorem copyOf_all:∀ (f L:Nat) (D:Nat→Prop) (W:World) (x:IV) (t:Tr),(∀ g,D g→g<W.heap.size)→IsIt f D W x t→(measI (measF L) t).isSome=true →
    Calls Tryz.prog 19 #[.agg #[.int .u8 x.k,.bool x.b,.slice x.a1 x.n1 x.c1,.slice x.a2 x.n2 x.c2,.int .i32 x.c,.slice x.a3 x.n3 x.c3]] W fun e w'=>∃ y:IV,e=.returned (.agg #[.int .u8 y.k,.bool y.b,.slice y.a1 y.n1 y.c1,.slice y.a2 y.n2 y.c2,.int .i32 y.c,.slice y.a3 y.n3 y.c3])∧IsIt f (Fr W.heap.size w'.heap.size) w' y t∧Below W.heap.size W w':=by
 intro f
 induction f with
 | zero=>
  intro L D W x t hD hx hm;rcases measI_cases hm with ⟨h1,h2,h3,h4⟩ | ⟨h1,h2,h3,h4⟩ | ⟨h1,h2,h3,h4,h5,h6⟩
  · have e1:=hx.k;have e2:=hx.b;have e3:=hx.n1;have e4:=hx.n2
    rw [h1] at e1;rw [e1,e2,e3,e4];refine (copyOf_numG ((hx.v.rn.rd hD)) ((hx.v.rd.rd hD)) (by have:=h2.1;omega) (by have:=h2.2.1;omega)).mono ?_;rintro e w' ⟨z1,u1,z2,u2,rfl,o1,o2,k⟩;exact ⟨⟨1,t.b,z1,t.ns.length,u1,z2,t.ds.length,u2,0,none,0,0⟩,rfl,isIt_num h1 h3 h4 o1 o2,k⟩
  · have e1:=hx.k;have e5:=hx.c
    rw [h1] at e1;rw [e1,e5];obtain ⟨q1,q2,q3⟩:=noneB_is h3;refine (copyOf_ch).mono ?_;rintro e w' ⟨rfl,k⟩;exact ⟨⟨2,false,none,0,0,none,0,0,t.c,none,0,0⟩,rfl,isIt_ch h1 q1 q2 q3 h4,k⟩
  · exfalso
    have hb:=hx.v.bx;obtain ⟨g1,o1,_,_,hc⟩:=hb.ptr (by omega);obtain ⟨_,_,_,_,_,_,_,_,hv⟩:=hc 0 (by omega);exact hv.elim
 | succ f ih=>
  intro L D W x t hD hx hm;rcases measI_cases hm with ⟨h1,h2,h3,h4⟩ | ⟨h1,h2,h3,h4⟩ | ⟨h1,h2,h3,h4,h5,h6⟩
  · have e1:=hx.k;have e2:=hx.b;have e3:=hx.n1;have e4:=hx.n2
    rw [h1] at e1;rw [e1,e2,e3,e4];refine (copyOf_numG ((hx.v.rn.rd hD)) ((hx.v.rd.rd hD)) (by have:=h2.1;omega) (by have:=h2.2.1;omega)).mono ?_;rintro e w' ⟨z1,u1,z2,u2,rfl,o1,o2,k⟩;exact ⟨⟨1,t.b,z1,t.ns.length,u1,z2,t.ds.length,u2,0,none,0,0⟩,rfl,isIt_num h1 h3 h4 o1 o2,k⟩
  · have e1:=hx.k;have e5:=hx.c
    rw [h1] at e1;rw [e1,e5];obtain ⟨q1,q2,q3⟩:=noneB_is h3;refine (copyOf_ch).mono ?_;rintro e w' ⟨rfl,k⟩;exact ⟨⟨2,false,none,0,0,none,0,0,t.c,none,0,0⟩,rfl,isIt_ch h1 q1 q2 q3 h4,k⟩
  · have e1:=hx.k;have e6:=hx.n3
    rw [h1] at e1;rw [h4] at e6;obtain ⟨q1,q2,q3⟩:=noneB_is h2;have hb:=hx.v.bx;obtain ⟨g1,o1,ea,hg1,hc⟩:=hb.ptr (by omega);obtain ⟨p1,m1,r1,p2,m2,r2,c1,c2,hv⟩:=hc 0 (by omega);rw [Nat.zero_mul,Nat.add_zero] at c1 c2;obtain ⟨L',rfl,s1,s2,s3,s4,s5⟩:=measF_some h6;generalize ha:t.kids.getD 0 tr0=a at *;obtain rfl:=hv.1.len;obtain rfl:=hv.2.len;rw [e1,e6,ea];refine (copyOf_box (f:=f) (D:=D) (a:=a) (a':=a) c1 c2 (hD g1 hg1) hv hD (by omega) (by omega) rfl rfl ?_).mono ?_
    · intro j y W2 hj hy hD2
      exact ih L' D W2 y _ hD2 hy (s5 _ (getD_memI hj))
    · rintro e w' ⟨k,z1,u1,z2,u2,w1,rfl,hk,hB,hV,kb,kw⟩
      exact ⟨⟨3,false,none,0,0,none,0,0,0,some ⟨k,0,none⟩,1,1⟩,rfl,isIt_box h1 q1 q2 q3 h3 h4 ha hk hB hV kb,kw⟩
end
end Go.Proofs.YtheaeggecpfcbaaGreat
