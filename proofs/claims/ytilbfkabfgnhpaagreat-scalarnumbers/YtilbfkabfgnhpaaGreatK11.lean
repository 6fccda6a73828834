/- Items as values; rows of them; the iterator of a slice of items. -/
import Derived.Test.YtilbfkabfgnhpaaGreatK7
import Derived.Shelf.Abstract
import Derived.Shelf.RegionOpen
import Derived.OwnWalkIn
import Derived.TacticsInMore
import Derived.LoopNIn
import Derived.LoopIn
import Derived.Test.YtilbfkabfgnhpaaGreatK8
import Derived.Test.YtilbfkabfgnhpaaGreatK9
import Derived.Deep.RegionHeld3
set_option linter.unusedVariables false
set_option linter.unusedSimpArgs false
namespace Go.Proofs.YtilbfkabfgnhpaaGreat
section
open Go.RowKit Go.Shelf
attribute [local go_sem] Oper.semAt_some
/-- What the six cells of an item hold. -/
structure IV where
 k:Int
 b:Bool
 a1:Option Addr
 n1:Nat
 c1:Nat
 a2:Option Addr
 n2:Nat
 c2:Nat
 c:Int
 a3:Option Addr
 n3:Nat
 c3:Nat
def iv0:IV:=⟨0,false,none,0,0,none,0,0,0,none,0,0⟩
def IV.encs (x:IV):Array Value:=#[.agg #[.int .u8 x.k,.bool x.b,.slice x.a1 x.n1 x.c1,.slice x.a2 x.n2 x.c2,.int .i32 x.c,.slice x.a3 x.n3 x.c3]]
/-- It is the item t. -/
structure IsIt (f:Nat) (D:Nat→Prop) (w:World) (x:IV) (t:Tr):Prop where
 k:x.k=t.k
 b:x.b=t.b
 n1:x.n1=t.ns.length
 n2:x.n2=t.ds.length
 c:x.c=t.c
 n3:x.n3=t.kids.length
 v:ItV (ArV f D w) D w x.a1 x.c1 x.a2 x.c2 x.a3 x.c3 t
theorem IsIt.imp {f:Nat} {D D':Nat→Prop} {w w':World} {x:IV} {t:Tr} (h:IsIt f D w x t) (hD:∀ g,D g→D' g) (hb:Agree D w w'):IsIt f D' w' x t:=
 ⟨h.k,h.b,h.n1,h.n2,h.c,h.n3,h.v.imp hD hb (fun _ _ _ h=>ArV.imp hD hb f f _ _ _ (Nat.le_refl _) h)⟩
theorem IsIt.agree {f:Nat} {D:Nat→Prop} {w w':World} {x:IV} {t:Tr} (h:IsIt f D w x t) (hb:Agree D w w'):IsIt f D w' x t:=h.imp (fun _ h=>h) hb
/-- Six cells in a row. -/
def CellsAt (W:World) (g o:Nat) (x:IV):Prop:=W.cell? ⟨g,o,none⟩=some (.int .u8 x.k)∧W.cell? ⟨g,o+1,none⟩=some (.bool x.b)∧W.cell? ⟨g,o+2,none⟩=some (.slice x.a1 x.n1 x.c1)∧W.cell? ⟨g,o+3,none⟩=some (.slice x.a2 x.n2 x.c2)∧W.cell? ⟨g,o+4,none⟩=some (.int .i32 x.c)∧W.cell? ⟨g,o+5,none⟩=some (.slice x.a3 x.n3 x.c3)
theorem CellsAt.agree {D:Nat→Prop} {W W':World} {g o:Nat} {x:IV} (h:CellsAt W g o x) (hb:Agree D W W') (hg:D g):CellsAt W' g o x:=
 ⟨(hb.cell hg).trans h.1,(hb.cell hg).trans h.2.1,(hb.cell hg).trans h.2.2.1,(hb.cell hg).trans h.2.2.2.1,(hb.cell hg).trans h.2.2.2.2.1,(hb.cell hg).trans h.2.2.2.2.2⟩
/-- A slice of items, by their cells. -/
def RowIV (D:Nat→Prop) (W:World) (v:Value) (L:List IV):Prop:=RowB D L.length v (fun g o j=>CellsAt W g (o+j*6) (L.getD j iv0))
theorem list_of {α:Type} (d:α) (P:Nat→α→Prop):∀ n:Nat,(∀ j,j<n→∃ x,P j x)→∃ L:List α,L.length=n∧∀ j,j<n→P j (L.getD j d)
 | 0,_=>⟨[],rfl,fun j hj=>by omega⟩
 | n+1,h=>by
  obtain ⟨L,h1,h2⟩:=list_of d P n (fun j hj=>h j (by omega));obtain ⟨x,hx⟩:=h n (by omega);refine ⟨L++[x],by simp [h1],fun j hj => ?_⟩;by_cases hjn:j<n
  · have:=h2 j hjn
    rw [List.getD_eq_getElem?_getD,List.getElem?_append_left (by omega),← List.getD_eq_getElem?_getD];exact this
  · obtain rfl:j=n:=by omega
    rw [List.getD_eq_getElem?_getD,List.getElem?_append_right (by omega),h1];simpa using hx
/-- The items of an array, by their cells. -/
theorem row_iv {f:Nat} {D:Nat→Prop} {w:World} {v:Value} {l:List Tr} (h:RowB D l.length v (fun g o j=>ItC (ArV f D w) D w g (o+j*6) (l.getD j tr0))) :
    ∃ L:List IV,L.length=l.length∧RowIV D w v L∧∀ j,j<l.length→IsIt f D w (L.getD j iv0) (l.getD j tr0):=by
 obtain ⟨a,cap,rfl,h1,h2,h3,h4⟩:=h;rcases h4 with h4 | ⟨g,o,rfl,hg,hc⟩
 · refine ⟨[],h4.symm,?_,fun j hj=>by omega⟩
   rw [h4] at h1 ⊢;exact ⟨a,cap,rfl,h1,h2,h3,Or.inl rfl⟩
 · obtain ⟨L,e1,e2⟩:=list_of iv0 (fun j x=>CellsAt w g (o+j*6) x∧IsIt f D w x (l.getD j tr0)) l.length (fun j hj=>by
    obtain ⟨b1,d1,b2,d2,b3,d3,hcs,hv⟩:=hc j hj;exact ⟨⟨(l.getD j tr0).k,(l.getD j tr0).b,b1,(l.getD j tr0).ns.length,d1,b2,(l.getD j tr0).ds.length,d2,(l.getD j tr0).c,b3,(l.getD j tr0).kids.length,d3⟩,hcs,rfl,rfl,rfl,rfl,rfl,rfl,hv⟩)
   refine ⟨L,e1,?_,fun j hj=>(e2 j hj).2⟩;rw [← e1] at h1 ⊢;exact ⟨_,cap,rfl,h1,h2,h3,Or.inr ⟨g,o,rfl,hg,fun j hj=>(e2 j (by omega)).1⟩⟩
/-- What a round keeps. -/
structure KeepW (n₀:Nat) (W W':World):Prop where
 below:Below n₀ W W'
 others:KeepsWalks W W'
theorem KeepW.trans {n₀:Nat} {A B C:World} (h:KeepW n₀ A B) (k:KeepW n₀ B C):KeepW n₀ A C:=⟨h.below.trans k.below,h.others.trans k.others⟩
theorem keepW_put {n₀ B0:Nat} (h1:n₀≤B0) (W:World) (l:Nat) (o o':Obj) (hl:B0≤l) (ho:W.heap[l]? = some o) (hw:o.isWalk=false):KeepW n₀ W (W.putObj l o'):=
 ⟨(Below.refl _ W).grown (grownBy_putObj' W l o') (by have:=(Array.getElem?_eq_some_iff.1 ho).1;omega) (fun k e=>by cases e;omega),KeepsWalks.putObj _ ho hw⟩
end
section
open Go.RowKit
def IsC (w:World) (g:Nat):Prop:=∃ o:Obj,w.heap[g]? = some o∧o.isCells=true
theorem isC_of {w:World} {g o:Nat} {v:Value} (h:w.cell? ⟨g,o,none⟩=some v):IsC w g:=by
 unfold World.cell? at h;unfold IsC
 cases ho:w.heap[g]? with
 | none=>simp [ho] at h
 | some b=>refine ⟨b,rfl,?_⟩;cases b <;> simp_all [Obj.isCells]
theorem RdL.cells {D:Nat→Prop} {w:World} {v:Value} {xs:List Int} (h:RdL D w v xs):RdL (fun g=>D g∧IsC w g) w v xs:=by
 obtain ⟨h0,a,cap,rfl,h1,h2,h3,h4⟩:=h;refine ⟨h0,a,cap,rfl,h1,h2,h3,?_⟩;by_cases hz:xs.length=0
 · exact Or.inl hz
 rcases h4 with h4 | ⟨b,off,rfl,hlt,hc⟩
 · exact Or.inl h4
 · exact Or.inr ⟨b,off,rfl,⟨hlt,isC_of (hc 0 (by omega))⟩,hc⟩
theorem RdN.cells {D:Nat→Prop} {w:World} {v:Value} {xs:List Int} (h:RdN D w v xs):RdN (fun g=>D g∧IsC w g) w v xs:=by
 obtain ⟨h0,a,cap,rfl,h1,h2,h3,h4⟩:=h;refine ⟨h0,a,cap,rfl,h1,h2,h3,?_⟩;by_cases hz:xs.length=0
 · exact Or.inl hz
 rcases h4 with h4 | ⟨b,off,rfl,hlt,hc⟩
 · exact Or.inl h4
 · exact Or.inr ⟨b,off,rfl,⟨hlt,isC_of (hc 0 (by omega))⟩,hc⟩
theorem RowB.cells {D:Nat→Prop} {w:World} {n:Nat} {v:Value} {C C':Nat→Nat→Nat→Prop} (h:RowB D n v C) (hC:∀ g o j,j<n→C g o j→IsC w g∧C' g o j):RowB (fun g=>D g∧IsC w g) n v C':=by
 obtain ⟨a,cap,rfl,h1,h2,h3,h4⟩:=h;refine ⟨a,cap,rfl,h1,h2,h3,?_⟩;by_cases hz:n=0
 · exact Or.inl hz
 rcases h4 with h4 | ⟨g,o,rfl,hlt,hc⟩
 · exact Or.inl h4
 · exact Or.inr ⟨g,o,rfl,⟨hlt,(hC g o 0 (by omega) (hc 0 (by omega))).1⟩,fun j hj=>(hC g o j hj (hc j hj)).2⟩
theorem ItV.cells {P P':Value→Value→Tr→Prop} {D:Nat→Prop} {w:World} {a1 a2 a3:Option Addr} {c1 c2 c3:Nat} {t:Tr} (h:ItV P D w a1 c1 a2 c2 a3 c3 t) (hP:∀ v1 v2 t,P v1 v2 t→P' v1 v2 t):ItV P' (fun g=>D g∧IsC w g) w a1 c1 a2 c2 a3 c3 t:=
 ⟨h.rn.cells,h.rd.cells,h.bx.cells (fun g o j hj ⟨x1,n1,y1,x2,n2,y2,e1,e2,e3⟩=>⟨isC_of e1,x1,n1,y1,x2,n2,y2,e1,e2,hP _ _ _ e3⟩)⟩
theorem ArV.cells {D:Nat→Prop} {w:World}:∀ (f:Nat) (v1 v2:Value) (t:Tr),ArV f D w v1 v2 t→ArV f (fun g=>D g∧IsC w g) w v1 v2 t
 | 0,_,_,_,h=>h.elim
 | f+1,v1,v2,t,h=>⟨h.1.cells,h.2.cells (fun g o j hj ⟨a1,c1,a2,c2,a3,c3,hcs,hv⟩=>⟨isC_of hcs.1,a1,c1,a2,c2,a3,c3,hcs,hv.cells (fun u1 u2 s hs=>ArV.cells f u1 u2 s hs)⟩)⟩
theorem elI_cells {f:Nat} {l:List Tr} {D:Nat→Prop} {w:World} {c:Nat→Option Value} {j:Nat} (h:ElI f l D w c j):ElI f l (fun g=>D g∧IsC w g) w c j:=by
 obtain ⟨a1,c1,a2,c2,a3,c3,hcs,hv⟩:=h;exact ⟨a1,c1,a2,c2,a3,c3,hcs,hv.cells (fun u1 u2 s hs=>ArV.cells f u1 u2 s hs)⟩
theorem row_kept {A B:World} {Z e size n:Nat} {v:Value} {xs:List Value} {row:Option Nat} (b2:A.ownsRow Z e size v n xs) (hg:A.grownBy B row) (hrow:∀ k,row=some k→∃ o:Obj,A.heap[k]? = some o∧o.isCells=false):B.ownsRow Z e size v n xs:=by
 refine b2.kept hg ?_;by_cases hv:v.ownBlock=none
 · exact Or.inl hv
 · refine Or.inr (fun e => ?_)
   obtain ⟨_,h | ⟨g,cap,cur,rfl,_,hh,_⟩⟩:=b2
   · rw [h.1] at hv;exact hv rfl
   · obtain ⟨o,ho,hc⟩:=hrow g e.symm
     rw [hh] at ho
     cases ho
     cases hc
/-- A row of items stays where blocks that are no cells are turned. -/
theorem rowI_grown {A B:World} {e f Z n:Nat} {l:List Tr} {v:Value} {row:Option Nat} (h:RowOf e 6 (ElI f l) Z A v n) (hg:A.grownBy B row) (hrow:∀ k,row=some k→∃ o:Obj,A.heap[k]? = some o∧o.isCells=false):RowOf e 6 (ElI f l) Z B v n:=by
 obtain ⟨xs,ho,he⟩:=h;refine ⟨xs,row_kept ho hg hrow,fun j hj=>elI_ok f l _ _ _ _ _ _ _ ?_ ?_ (fun _ _=>rfl) (elI_cells (he j hj))⟩
 · rintro g ⟨⟨g1,g2,g3⟩,_⟩
   exact ⟨g1,Nat.lt_of_lt_of_le g2 hg.size,g3⟩
 · rintro g ⟨⟨g1,g2,g3⟩,o,ho',hc⟩
   refine hg.block g g2 (fun e => ?_);obtain ⟨o2,h2,h3⟩:=hrow g e.symm;rw [ho'] at h2
   cases h2
   rw [hc] at h3
   cases h3
theorem boxA_kept {A B:World} {R ty:Nat} {xs:Array Value} {row:Option Nat} (h:BoxA A R ty xs) (hg:A.grownBy B row) (hrow:∀ k,row=some k→∃ o:Obj,A.heap[k]? = some o∧o.isCells=false):BoxA B R ty xs:=
 boxA_grown h hg (fun e=>by
  obtain ⟨o,ho,hc⟩:=hrow R e;unfold BoxA at h;rw [h] at ho
  cases ho
  cases hc)
theorem row_isC {W:World} {base e size n:Nat} {v:Value} {xs:List Value} (h:W.ownsRow base e size v n xs):∀ j,v.ownBlock=some j→∃ o:Obj,W.heap[j]? = some o∧o.isCells=true:=by
 intro j hj;obtain ⟨_,h | ⟨g,cap,cur,rfl,_,hh,_⟩⟩:=h
 · rw [h.1] at hj;cases hj
 · cases hj
   exact ⟨_,hh,rfl⟩
theorem boxA_p1 {W:World} {B ty:Nat} {u:Value} (h:BoxA W B ty #[u]) (v:Value):BoxA (W.setCell ⟨B,0,none⟩ v) B ty #[v]:=by
 unfold BoxA at h ⊢;simp [World.setCell,Array.getElem?_modify,h]
theorem boxA_o {w:World} {k ty:Nat} {xs:Array Value} {p:Addr} (h:BoxA w k ty xs) (hp:p.block≠k) (v:Value):BoxA (w.setCell p v) k ty xs:=by
 unfold BoxA at h ⊢;simp [World.setCell,Array.getElem?_modify,hp,h]
end
section
open Go.RowKit Go.Shelf
attribute [local go_sem] Oper.semAt_some
section
variable {Q:Exit→Act→World→Prop} {l N f i d3 Z Wk O Bx:Nat} {b3:Option Addr} {W wa:World} {x y:IV} {t:Tr} {xs:List Value} {t0 t1 t2 t3 t4 t5 t6 t7 t8 t9 t10 t11 t12 t13 t14 t15:Value} {r:List Value} {ds:List Deferred}
end
end
section
open Go.RowKit Go.Shelf
attribute [local go_sem] Oper.semAt_some
end
section
open Go.RowKit
section
variable {w:World} {f:Nat} {D:Nat→Prop} {a2:Option Addr} {c2 Bn:Nat} {l l':List Tr}
end
section
variable {w:World} {f:Nat} {D:Nat→Prop} {x1:Option Addr} {y1:Nat} {x2:Option Addr} {y2:Nat} {t t':Tr}
end
section
variable {ch:Int} {a3:Option Addr} {n3 c3:Nat} {w:World} {b:Bool} {a1 a2:Option Addr} {c1 c2:Nat} {ns ds:List Int}
end
section
variable {ch:Int} {a1 a2 a3:Option Addr} {n1 n2 n3 c1 c2 c3:Nat} {w:World} {b:Bool}
end
/-- What a right item is. -/
theorem measI_cases {M:Tr→Option (Int×Int)} {t:Tr} (h:(measI M t).isSome=true):(t.k=1∧RightP t.b t.ns t.ds∧t.c=0∧t.kids.length=0)∨(t.k=2∧okR t.c∧noneB t=true∧t.kids.length=0)∨(t.k=3∧noneB t=true∧t.c=0∧t.kids.length=1∧simpB (t.kids.getD 0 tr0)=false∧(M (t.kids.getD 0 tr0)).isSome=true):=by
 by_cases h1:t.k=1
 · by_cases hg:RightP t.b t.ns t.ds∧t.c=0∧t.kids.length=0
   · exact Or.inl ⟨h1,hg⟩
   · rw [measI_num_no h1 hg] at h;cases h
 by_cases h2:t.k=2
 · by_cases hg:okR t.c∧noneB t=true∧t.kids.length=0
   · exact Or.inr (Or.inl ⟨h2,hg⟩)
   · rw [measI_ch_no h2 hg] at h;cases h
 by_cases h3:t.k=3
 · by_cases hg:noneB t=true∧t.c=0∧t.kids.length=1∧simpB (t.kids.getD 0 tr0)=false
   · rw [measI_box h3 hg] at h
     exact Or.inr (Or.inr ⟨h3,hg.1,hg.2.1,hg.2.2.1,hg.2.2.2,h⟩)
   · rw [measI_box_no h3 hg] at h;cases h
 rw [measI_else h1 h2 h3] at h;cases h
theorem measL_all {I:Tr→Option (Int×Int)}:∀ (l:List Tr) (w p:Int×Int),measL I l w=some p→∀ x∈l,(I x).isSome=true
 | [],_,_,_,_,hx=>by cases hx
 | t :: r,w,p,h,x,hx=>by
  rw [measL] at h
  cases hi:I t with
  | none=>rw [hi] at h;simp at h
  | some q=>
   rw [hi] at h;by_cases hc:16384<w.2+q.2
   · simp only [hc,if_true] at h;cases h
   · simp only [hc,if_false] at h
     rcases List.mem_cons.1 hx with rfl | hx
     · rw [hi];rfl
     · exact measL_all r _ p h x hx
theorem size_rank {sh:List Int} (h:(sizeF sh).2=0):sh.length≤8:=by
 unfold sizeF at h;by_cases h8:8<sh.length
 · rw [if_pos h8] at h;cases h
 · omega
/-- What a right array is. -/
theorem measF_some {L:Nat} {t:Tr} (h:(measF L t).isSome=true):∃ L',L=L'+1∧t.ns.length≤8∧(sizeF t.ns).2=0∧(t.kids.length:Int)=max (sizeF t.ns).1 1∧t.kids.length≤4096∧∀ x∈t.kids,(measI (measF L') x).isSome=true:=by
 cases L with
 | zero=>rw [measF] at h;cases h
 | succ L=>
  refine ⟨L,rfl,?_⟩;by_cases hc:(sizeF t.ns).2=0∧(t.kids.length:Int)=max (sizeF t.ns).1 1
  · rw [measF_succ hc] at h
    have hin:=sizeF_in t.ns;refine ⟨size_rank hc.1,hc.1,hc.2,by have:=hc.2;omega,?_⟩
    cases hm:measL (measI (measF L)) t.kids (1,(t.kids.length:Int)) with
    | none=>rw [hm] at h;unfold finM at h;cases h
    | some p=>exact measL_all _ _ p hm
  · rw [measF,if_neg hc] at h;cases h
theorem getD_memI {l:List Tr} {j:Nat} (h:j<l.length):l.getD j tr0∈l:=by
 rw [List.getD_eq_getElem?_getD,List.getElem?_eq_getElem h];exact List.getElem_mem h
section
variable {f:Nat} {D:Nat→Prop} {w:World} {b:Bool} {a1 a2:Option Addr} {n1 n2 c1 c2 c3 g3 o3:Nat} {ch:Int} {x1:Option Addr} {y1:Nat} {x2:Option Addr} {y2:Nat} {a a':Tr}
end
end
end Go.Proofs.YtilbfkabfgnhpaaGreat
