/- Steps, strides, rotated items: what is meant. -/
import Derived.Test.YtheaeggecpfcbaaGreatH1
import Derived.Test.YtheaeggecpfcbaaGreatK12
import Derived.Test.YtheaeggecpfcbaaGreatK11
import Derived.Test.YtheaeggecpfcbaaGreatKB
import Derived.Test.YtheaeggecpfcbaaGreatH3
import Derived.Test.YtheaeggecpfcbaaGreatNA
import Derived.Test.YtheaeggecpfcbaaGreatK7
import Derived.Laws.MakeOwn
set_option maxRecDepth 100000
set_option maxHeartbeats 6400000
set_option linter.unusedVariables false
set_option linter.unusedSimpArgs false
namespace Go.Proofs.YtheaeggecpfcbaaGreat
section
open Go.RowKit
/-- So many items. -/
def prodL:List Int→Int
 | []=>1
 | n :: r=>n*prodL r
def strF:List Int→List Int
 | []=>[]
 | _ :: r=>prodL r :: strF r
/-- How far each place along an axis is from the first one. -/
def axF (n:Int) (s:Int):List Int:=(List.range n.toNat).map (fun (i:Nat)=>(i:Int)*s)
theorem strF_len:∀ l:List Int,(strF l).length=l.length
 | []=>rfl
 | _ :: r=>by rw [strF,List.length_cons,List.length_cons,strF_len r]
theorem strF_get:∀ (l:List Int) (k:Nat),k<l.length→(strF l).getD k 0=prodL (l.drop (k+1))
 | [],k,h=>by simp at h
 | _ :: r,0,_=>rfl
 | _ :: r,k+1,h=>by
  rw [strF,List.getD_cons_succ,strF_get r k (by simpa using h)];rfl
theorem prodL_drop (l:List Int) (k:Nat) (h:k<l.length):prodL (l.drop k)=l.getD k 0*prodL (l.drop (k+1)):=by
 rw [List.drop_eq_getElem_cons h,prodL,List.getD_eq_getElem?_getD,List.getElem?_eq_getElem h];rfl
theorem prodL_nonneg:∀ l:List Int,(∀ x∈l,0≤x)→0≤prodL l
 | [],_=>by rw [prodL];omega
 | n :: r,h=>by
  rw [prodL];exact Int.mul_nonneg (h n (by simp)) (prodL_nonneg r (fun x hx=>h x (by simp [hx])))
/-- Items at places. -/
def selF (l:List Tr) (ps:List Int):List Tr:=ps.map (fun p=>l.getD p.toNat tr0)
/-- Whatever order: the measure is the same. -/
theorem measL_perm {I:Tr→Option (Int×Int)} (hI:∀ t q,I t=some q→0≤q.2) {l l':List Tr} (h:List.Perm l l'):∀ w,measL I l w=measL I l' w:=by
 induction h with
 | nil=>intro w;rfl
 | cons x _ ih=>
  intro w;rw [measL,measL]
  cases I x with
  | none=>rfl
  | some p=>simp only [ih]
 | swap x y l=>
  intro w;simp only [measL]
  cases hx:I x with
  | none=>
   cases hy:I y with
   | none=>rfl
   | some q=>simp
  | some p=>
   cases hy:I y with
   | none=>simp
   | some q=>
    have hp:=hI _ _ hx;have hq:=hI _ _ hy;simp only [];by_cases h1:16384<w.2+q.2+p.2
    · have h2:16384<w.2+p.2+q.2:=by omega
      simp [h1,h2]
    · have h2:¬ 16384<w.2+p.2+q.2:=by omega
      have h3:¬ 16384<w.2+q.2:=by omega
      have h4:¬ 16384<w.2+p.2:=by omega
      have e1:max (max w.1 (1+q.1)) (1+p.1)=max (max w.1 (1+p.1)) (1+q.1):=by omega
      have e2:w.2+q.2+p.2=w.2+p.2+q.2:=by omega
      simp only [h1,h2,h3,h4,if_false,e1,e2]
 | trans _ _ ih1 ih2=>intro w;rw [ih1,ih2]
theorem measI_up {M M':Tr→Option (Int×Int)} (h:∀ s q,M s=some q→M' s=some q) (t:Tr) (p:Int×Int) (hp:measI M t=some p):measI M' t=some p:=by
 unfold measI at hp ⊢;by_cases e1:t.k=1
 · rw [if_pos e1] at hp ⊢;exact hp
 rw [if_neg e1] at hp ⊢;by_cases e2:t.k=2
 · rw [if_pos e2] at hp ⊢;exact hp
 rw [if_neg e2] at hp ⊢;by_cases e3:t.k=3
 · rw [if_pos e3] at hp ⊢
   by_cases hc:noneB t=true∧t.c=0∧t.kids.length=1∧simpB (t.kids.getD 0 tr0)=false
   · rw [if_pos hc] at hp ⊢;exact h _ _ hp
   · rw [if_neg hc] at hp;cases hp
 · rw [if_neg e3] at hp;cases hp
theorem measL_up {I J:Tr→Option (Int×Int)} (h:∀ s q,I s=some q→J s=some q):∀ (l:List Tr) (w p:Int×Int),measL I l w=some p→measL J l w=some p
 | [],w,p,hp=>by rw [measL] at hp ⊢;exact hp
 | t :: r,w,p,hp=>by
  rw [measL] at hp ⊢
  cases hi:I t with
  | none=>rw [hi] at hp;cases hp
  | some q=>
   rw [hi] at hp;rw [h _ _ hi];by_cases hc:16384<w.2+q.2
   · simp only [hc,if_true] at hp;cases hp
   · simp only [hc,if_false] at hp ⊢
     exact measL_up h r _ p hp
theorem measF_up:∀ (L:Nat) (t:Tr) (p:Int×Int),measF L t=some p→measF (L+1) t=some p
 | 0,t,p,h=>by rw [measF] at h;cases h
 | L+1,t,p,h=>by
  rw [measF] at h ⊢;by_cases hc:(sizeF t.ns).2=0∧(t.kids.length:Int)=max (sizeF t.ns).1 1
  · rw [if_pos hc] at h ⊢
    cases hm:measL (measI (measF L)) t.kids (1,(t.kids.length:Int)) with
    | none=>rw [hm] at h;cases h
    | some q=>
     rw [hm] at h;rw [measL_up (fun s r=>measI_up (fun s r=>measF_up L s r) s r) _ _ _ hm];exact h
  · rw [if_neg hc] at h;cases h
/-- All items together. -/
theorem tog_of {I:Tr→Option (Int×Int)}:∀ (l:List Tr) (w p:Int×Int),measL I l (w.1,w.2+(l.length:Int))=some p→(l.map (fun t=>(I t).getD (0,0))).foldl togStep w=p
 | [],w,p,h=>by
  rw [measL] at h
  cases h
  simp
 | t :: r,w,p,h=>by
  rw [measL] at h
  cases hi:I t with
  | none=>rw [hi] at h;cases h
  | some q=>
   rw [hi] at h;simp only [] at h;by_cases hc:16384<w.2+((t :: r).length:Int)+q.2
   · rw [if_pos hc] at h;cases h
   · rw [if_neg hc] at h
     rw [List.map_cons,List.foldl_cons,hi];refine tog_of r _ p ?_;have e:(max w.1 (1+q.1),w.2+((t :: r).length:Int)+q.2)=((togStep w ((some q).getD (0,0))).1,(togStep w ((some q).getD (0,0))).2+(r.length:Int)):=by
      unfold togStep;simp only [Option.getD_some,List.length_cons]
      congr 1
      push_cast
      omega
     rw [← e];exact h
theorem cyc_all {α:Type} {d:α} (l:List α):cyc d l l.length=l:=by
 apply List.ext_getElem?;intro i;unfold cyc;by_cases hi:i<l.length
 · rw [List.getElem?_map,List.getElem?_range hi,List.getElem?_eq_getElem hi]
   simp only [Option.map_some];rw [Nat.mod_eq_of_lt hi,List.getD_eq_getElem?_getD,List.getElem?_eq_getElem hi];rfl
 · rw [List.getElem?_eq_none (by simp;omega),List.getElem?_eq_none (by omega)]
/-- What Make asks of the items of a right array, in whatever order. -/
theorem make_fit {sh:List Int} {l l':List Tr} (h:(measF 16 (arrT sh l)).isSome=true) (hp:List.Perm l' l):(∀ t∈l',(measI (measF 16) t).isSome=true)∧(togF (msOf l')).1≤16∧(togF (msOf l')).2≤16384∧(measF 16 (arrT sh l')).isSome=true∧(sizeF sh).2=0∧(l.length:Int)=max (sizeF sh).1 1:=by
 have hn:∀ t q,measI (measF 15) t=some q→0≤q.2:=fun t q hq=>(measI_in (measF_in 15) t q hq).2.2.1;rw [measF] at h;by_cases hc:(sizeF (arrT sh l).ns).2=0∧((arrT sh l).kids.length:Int)=max (sizeF (arrT sh l).ns).1 1
 · rw [if_pos hc] at h
   cases hm:measL (measI (measF 15)) (arrT sh l).kids (1,((arrT sh l).kids.length:Int)) with
   | none=>rw [hm] at h;cases h
   | some p=>
    have hm:measL (measI (measF 15)) l (1,(l.length:Int))=some p:=hm;have hm':measL (measI (measF 15)) l' (1,(l'.length:Int))=some p:=by rw [measL_perm hn hp,hp.length_eq];exact hm
    have h16:=measL_up (fun s r=>measI_up (fun s r=>measF_up 15 s r) s r) _ _ _ hm';have ht:togF (msOf l')=p:=tog_of l' (1,0) p (by simpa using h16);have hb:=measL_in (measI_in (measF_in 15)) l' (1,(l'.length:Int)) p (by simp) (by simp) (by simp) ?_ hm'
    · refine ⟨fun t htm=>measL_all _ _ _ h16 t htm,by rw [ht];omega,by rw [ht];omega,?_,hc.1,hc.2⟩
      rw [measF,if_pos (by
       refine ⟨hc.1,?_⟩;show (l'.length:Int)=_;rw [hp.length_eq];exact hc.2)]
      show (match measL (measI (measF 15)) l' (1,(l'.length:Int)) with | none=>none | some p=>some (if simpB (arrT sh l')=true then 0 else p.1,p.2)).isSome=true
      rw [hm'];rfl
    · have h1:=hc.2
      have h2:=sizeF_in sh;have h3:(l.length:Int)=max (sizeF sh).1 1:=h1;show (l'.length:Int)≤16384;rw [hp.length_eq];omega
 · rw [if_neg hc] at h;cases h
def ivX (L:List IV) (y:IV) (p:Int):IV:=if p<0 then y else L.getD p.toNat iv0
def trX (t:Tr) (p:Int):Tr:=if p<0 then tyI (t.kids.getD 0 tr0) else t.kids.getD p.toNat tr0
def selP (t:Tr) (ps:List Int):List Tr:=ps.map (trX t)
theorem selP_len (t:Tr) (ps:List Int):(selP t ps).length=ps.length:=by simp [selP]
theorem selP_F {t:Tr} {ps:List Int} (h:∀ p∈ps,0≤p):selP t ps=selF t.kids ps:=by
 unfold selP selF;apply List.map_congr_left;intro p hp;unfold trX;rw [if_neg (by have:=h p hp;omega)]
def cellsX (X:Int→IV) (ps:List Int):List Value:=ps.flatMap fun p=>(X p).arr.toList
theorem iv_len (x:IV):x.arr.toList.length=6:=rfl
theorem cellsX_snoc (X:Int→IV) (ps:List Int) (p:Int):cellsX X (ps++[p])=cellsX X ps++(X p).arr.toList:=by simp [cellsX]
theorem cellsX_get {X:Int→IV}:∀ (ps:List Int) (j q:Nat),j<ps.length→q<6→(cellsX X ps)[j*6+q]? = (X (ps.getD j 0)).arr.toList[q]?
 | [],j,q,h,_=>by simp at h
 | p :: r,0,q,_,hq=>by
  show (cellsX X (p :: r))[0*6+q]? = _;unfold cellsX;rw [List.flatMap_cons,List.getElem?_append_left (by rw [iv_len];omega),Nat.zero_mul,Nat.zero_add];rfl
 | p :: r,j+1,q,h,hq=>by
  unfold cellsX;rw [List.flatMap_cons,List.getElem?_append_right (by rw [iv_len];omega),iv_len];have e:(j+1)*6+q - 6=j*6+q:=by omega
  rw [e];exact cellsX_get r j q (by simpa using h) hq
/-- A row of items, by what their cells hold. -/
theorem row_X {X:Int→IV} {ps:List Int} {W:World} {Z:Nat} {v:Value} (h:W.ownsRow Z 68 6 v ps.length (cellsX X ps)):RowB (Fr Z W.heap.size) ps.length v (fun g o j=>CellsAt W g (o+j*6) (X (ps.getD j 0))):=by
 have hrow:=h;obtain ⟨h1,h | ⟨g,cap,cur,rfl,hg,hh,h2,h3,h4,h5⟩⟩:=h
 · obtain ⟨rfl,hz⟩:=h
   exact ⟨none,0,by rw [hz],by omega,by omega,fun _=>rfl,Or.inl hz⟩
 · refine ⟨_,cap,rfl,h2,by unfold maxLen at h3;omega,(fun h=>by cases h),Or.inr ⟨g,0,rfl,⟨hg,lt_of_block hh⟩,fun j hj => ?_⟩⟩
   have key:∀ q,q<6→W.cell? ⟨g,0+j*6+q,none⟩=(X (ps.getD j 0)).arr.toList[q]?:=fun q hq=>by
    have e:=hrow.cellAt (j*6+q) (by omega);rw [cellsX_get ps j q hj hq] at e;rw [Nat.zero_add];exact e
   exact ⟨key 0 (by omega),key 1 (by omega),key 2 (by omega),key 3 (by omega),key 4 (by omega),key 5 (by omega)⟩
/-- A row of items as trees. -/
theorem row_trees {f:Nat} {D D':Nat→Prop} {W:World} {X:Int→IV} {ps:List Int} {v:Value} {l:List Tr} (h:RowB D ps.length v (fun g o j=>CellsAt W g (o+j*6) (X (ps.getD j 0)))) (hl:l.length=ps.length) (hD:∀ g,D g→D' g) (hX:∀ j,j<ps.length→IsIt f D' W (X (ps.getD j 0)) (l.getD j tr0)) :
    RowB D' l.length v (fun g o j=>ItC (ArV f D' W) D' W g (o+j*6) (l.getD j tr0)):=by
 rw [hl];refine RowB.imp h hD (fun g o j _ hj hc => ?_);have hi:=hX j hj;obtain ⟨q0,q1,q2,q3,q4,q5⟩:=hc;exact ⟨_,_,_,_,_,_,⟨by rw [← hi.k];exact q0,by rw [← hi.b];exact q1,by rw [← hi.n1];exact q2,by rw [← hi.n2];exact q3,by rw [← hi.c];exact q4,by rw [← hi.n3];exact q5⟩,hi.v⟩
end
section
open Go.RowKit Go.Shelf
structure SelI (X:Int→IV) (w W0:World) (T:Nat) (pre:List Int) (W:World) (a:Option Addr) (cc:Nat):Prop where
 box:BoxA W T 22 #[.slice a pre.length cc]
 own:W.ownsRow W0.heap.size 68 6 (.slice a pre.length cc) pre.length (cellsX X pre)
 bel:Below w.heap.size w W
 old:∀ g,g<W0.heap.size→g≠T→W.heap[g]? = W0.heap[g]?
 size:W0.heap.size≤W.heap.size
theorem SelI.grown {X:Int→IV} {w W0 A B:World} {T cc:Nat} {pre:List Int} {a:Option Addr} {row:Option Nat} (h:SelI X w W0 T pre A a cc) (hwT:w.heap.size≤W0.heap.size) (hg:A.grownBy B row) (hrow:∀ k,row=some k→W0.heap.size≤k∧∃ o:Obj,A.heap[k]? = some o∧o.isCells=false):SelI X w W0 T pre B a cc:=by
 have hs:=hg.size;refine ⟨boxA_kept h.box hg (fun k e=>(hrow k e).2),?_,h.bel.grown hg h.bel.size (fun k e=>by have:=(hrow k e).1;omega),fun g h1 h2 => ?_,by have:=h.size;omega⟩
 · obtain ⟨h1,h2 | ⟨g,cap,cur,hv,hb,hh,r⟩⟩:=h.own
   · exact ⟨h1,Or.inl h2⟩
   · refine ⟨h1,Or.inr ⟨g,cap,cur,hv,hb,?_,r⟩⟩
     rw [hg.block g (lt_of_block hh) (fun e=>by
      obtain ⟨_,o,ho,hc⟩:=hrow g e.symm;rw [hh] at ho
      cases ho
      cases hc)]
     exact hh
 · rw [hg.block g (by have:=h.size;omega) (fun e=>by have:=(hrow g e.symm).1;omega)]
   exact h.old g h1 h2
theorem SelI.next {X:Int→IV} {w W0 W Va wa:World} {T cc:Nat} {pre:List Int} {x:Int} {a:Option Addr} {v':Value} (h:SelI X w W0 T pre W a cc) (hT:T<W0.heap.size) (hwT:w.heap.size≤T) (ka:Below W.heap.size W Va) (ko:KeepsOthers W Va) (hg:Va.grownBy wa (Value.slice a pre.length cc).ownBlock) (hr:wa.ownsRow W0.heap.size 68 6 v' (pre.length+1) (cellsX X pre++(X x).arr.toList)) :
    ∃ a' c',v'=.slice a' (pre.length+1) c'∧SelI X w W0 T (pre++[x]) (wa.setCell ⟨T,0,none⟩ v') a' c'∧KeepsFrom W0.heap.size W (wa.setCell ⟨T,0,none⟩ v')∧KeepV w.heap.size (fun g=>g=T) (fun ty=>ty=68) W (wa.setCell ⟨T,0,none⟩ v'):=by
 obtain ⟨a',c',rfl⟩:=row_form3 hr;have s1:=ka.size;have s2:=hg.size;have s3:=h.size;have hoa:=row_below h.own ka (Nat.le_refl _);have hob:=fun k e=>row_own h.own k e;have hlp:(pre++[x]).length=pre.length+1:=by simp
 have BX:=(boxA_grown (h.box.below ka h.box.lt) hg (fun e=>by have:=(hob _ e).1;omega)).one (.slice a' (pre.length+1) c');have k1:KeepsOthers W wa:=ko.trans (KeepsOthers.of_grownBy hg (fun j o e ho'=>by obtain ⟨o',ho2,hc⟩:=row_isC hoa j e;rw [ho'] at ho2;cases ho2;exact hc));refine ⟨a',c',rfl,⟨?_,?_,?_,fun g h1 h2 => ?_,?_⟩,(k1.trans (KeepsOthers.setCell wa ⟨T,0,none⟩ _)).from _,?_⟩
 · rw [hlp];exact BX
 · rw [hlp,cellsX_snoc]
   exact ownsRow_setCell_other hr (fun e=>by have h1:W0.heap.size≤T:=(row_own hr _ e).1;omega) _
 · exact ((h.bel.trans (ka.mono h.bel.size)).grown hg (by have:=h.bel.size;omega) (fun k e=>by have:=(hob k e).1;omega)).setCell (p:=⟨T,0,none⟩) hwT _
 · have hne:¬ T=g:=fun e=>h2 e.symm
   have e1:(wa.setCell ⟨T,0,none⟩ (.slice a' (pre.length+1) c')).heap[g]? = wa.heap[g]?:=by simp [World.setCell,Array.getElem?_modify,hne]
   rw [e1,hg.block g (by omega) (fun e=>by have:=(hob g e.symm).1;omega),ka.block g (by omega),h.old g h1 h2]
 · simp [World.setCell];omega
 · have q1:KeepV w.heap.size (fun g=>g=T) (fun ty=>ty=68) W Va:=KeepV.of_below ka (by omega)
   exact (q1.trans (KeepV.row hg (by omega) hoa (by omega) rfl)).trans (KeepV.cell1 wa 0 _ hwT rfl)
end
section
open Go.RowKit Go.Shelf
attribute [local go_sem] Oper.semAt_some
def encBI (x:Nat×Int):Array Value:=#[.int .i64 x.1,.int .i64 x.2]
/-- Numbers with their places, the last one first. -/
def backI (rs:List Int):List (Nat×Int):=(List.range rs.length).reverse.map (fun i=>(i,rs.getD i 0))
theorem backI_len (rs:List Int):(backI rs).length=rs.length:=by simp [backI]
theorem backI_at {rs:List Int} {k:Nat} (hk:k<rs.length):(backI rs)[k]? = some (rs.length - 1 - k,rs.getD (rs.length - 1 - k) 0):=by
 unfold backI;rw [List.getElem?_map,List.getElem?_reverse (by simpa using hk),List.length_range,List.getElem?_range (by omega)];rfl
theorem backI_step {rs:List Int} {j:Nat} (hj:j<rs.length):(backI rs).take (rs.length - (j+1))++[(j,rs.getD j 0)]=(backI rs).take (rs.length - j):=by
 have h:=backI_at (rs:=rs) (k:=rs.length - (j+1)) (by omega);rw [show rs.length - 1 - (rs.length - (j+1))=j by omega] at h;rw [show rs.length - j=rs.length - (j+1)+1 by omega,List.take_add_one,h];rfl
theorem backI_pays {w:World} {D:Nat→Prop} {rs:List Int} {a:Option Addr} {cap Bn n₀:Nat} (n:Nat) (hn:2≤n) (hD:∀ g,D g→g<n₀) (hU:RdN D w (.slice a rs.length cap) rs) (hn₀:n₀≤Bn) (hBn:BoxA w Bn 23 #[.slice a rs.length cap]) {Kp:World→World→Prop} (hKp:∀ {A B:World},BoxA A Bn 23 #[.slice a rs.length cap]→Kp A B→KeepF n₀ Bn A B) :
    PaysX Fence.wide n Tryz.prog 174 #[.pointer (some ⟨Bn,0,none⟩)] encBI Kp (fun pre x _=>∃ r,pre++x :: r=backI rs) (fun xs _=>xs=backI rs) (fun xs=>xs <+: backI rs) w:=by
 intro l J Jx W hW hJ hJx hY hJ0;have hBw:=hBn.lt;have hBW:=hBn.below hW hBw;have HU:Hid (RdN D W (.slice a rs.length cap) rs):=hU.imp (fun _ h=>h) (Agree.of hW (fun g hg=>by have:=hD g hg;omega));have hk:=hU.bounds.1;have hcap:=hU.bounds.2;have HD:Hid (∀ g,D g→g<n₀):=hD;have hsW:=hW.size;clear hU hD;have c0:=hBW.cell 0 rfl;have hwl:IntKind.i64.wrap ((rs.length:Int) - 1)=(rs.length:Int) - 1:=by rw [IntKind.wrap_i64];omega
 refine callsIn_of_wp Tryz.func174 rfl trivial ?_ rfl;simp only [Tryz.ntmps174,List.size_toArray,List.length_cons,List.length_nil,Nat.reduceAdd,Nat.reduceSub,Array.replicate_succ,Array.replicate_zero,List.push_toArray,List.append_toArray,List.nil_append,List.cons_append]
 gi_wp2
 clear c0
 gi_loopw [3] (fun iv wr=>∃ (z:Int) (k:Nat),iv=.int .i64 z∧Hid (z=(k:Int) - 1)∧k≤rs.length∧J ((backI rs).take (rs.length - k)) wr∧KeepF n₀ Bn W wr) (fun iv _=>(intOf iv+1).toNat)
 case atStart=>exact ⟨(rs.length:Int) - 1,rs.length,rfl,rfl,Nat.le_refl _,by rw [Nat.sub_self,List.take_zero];exact hJ0,⟨Below.refl _ _,rfl⟩⟩
 case round=>
  obtain ⟨z,k,rfl,HZ,hkl,hJs,hK⟩:=hrel;have hBr:BoxA wr Bn 23 #[.slice a rs.length cap]:=by unfold BoxA;rw [hK.box];exact hBW
  have c0:=hBr.cell 0 rfl
  cases k with
  | zero=>
   obtain rfl:z = -1:=by have:=HZ.out;omega
   have HJ:Hid (J (backI rs) wr):=by
    unfold Hid;rw [Nat.sub_zero,List.take_of_length_le (by rw [backI_len];exact Nat.le_refl _)] at hJs;exact hJs
   clear HZ hJs
   gi_wp2
   go_end0
   exact ⟨⟨_,rfl⟩,Or.inl ⟨_,rfl,HJ.out⟩⟩
  | succ j=>
   obtain rfl:z=(j:Int):=by have:=HZ.out;omega
   obtain ⟨ub,uo,rfl,hub,hcc⟩:=HU.out.ptr (by omega);have q0:=(hK.below.cell (p:=⟨ub,uo+j,none⟩) (HD.out ub hub)).trans (hcc j (by omega));have HX:Hid ((backI rs).take (rs.length - (j+1))++[(j,rs.getD j 0)]=(backI rs).take (rs.length - j)):=backI_step (by omega);have i1:(j:Int)<(rs.length:Int):=by omega
   have i0:(0:Int)≤(j:Int):=by omega
   have hw1:IntKind.i64.wrap ((j:Int) - 1)=(j:Int) - 1:=by rw [IntKind.wrap_i64];omega
   obtain ⟨fn,tmps,assign,body,hy,hRd⟩:=hY ((backI rs).take (rs.length - (j+1))) (j,rs.getD j 0) wr hJs ⟨(backI rs).drop (rs.length - j),by
    rw [← List.singleton_append,← List.append_assoc,HX.out];exact List.take_append_drop _ _⟩
   dsimp only [encBI] at hy;generalize rs.getD j 0=x at *;clear hcc HZ hJs
   gi_wp2
   refine ⟨fun _=>by omega,hRd.mono ?_⟩;rintro e W3 (⟨rfl,hJ3,hk3⟩ | ⟨rfl,hJ3⟩)
   · have hK3:=hK.trans (hKp hBr hk3)
     rw [HX.out] at hJ3
     gi_wp2
     go_roundw
     case rel=>exact ⟨(j:Int) - 1,j,by first | rfl | simp,rfl,by omega,hJ3,hK3⟩
     case measure=>simp [intOf] <;> omega
   · gi_wp2
     refine bodyPost_ret (results_none rfl _ _ _) rfl ?_;exact ⟨⟨_,rfl⟩,Or.inr ⟨_,by rw [HX.out];exact List.take_prefix _ _,hJ3⟩⟩
end
section
open Go.RowKit
theorem made_one (z:Value) (n:Nat):madeCells #[z] n=Array.replicate n z:=by
 apply Array.ext';apply List.ext_getElem?;intro i;unfold madeCells;by_cases hi:i<n
 · simp [hi,List.getElem?_replicate,Nat.mod_one]
 · simp [hi,List.getElem?_replicate]
theorem info_row:(Tryz.prog.info? 23).map (fun i=>(i.zero,i.size,i.bytes))=some (some (.slice none 0 0),1,24):=by kernel_rfl
theorem make_ints (n:Nat) (hn:n≤1000000) (w:World):(Instr.makeSlice 23 (.int .i64 (n:Int)) (.int .i64 (n:Int))).run Tryz.prog w=.ok (.slice (some ⟨w.heap.size,0,none⟩) n n) (w.alloc (.cells (Array.replicate n (Value.int .i64 0)) 3)):=by
 obtain ⟨i0,hi,hz0,hz1,hz2⟩:=info_parts info_int3;have h:=run_makeSlice (P:=Tryz.prog) w 23 3 i0 (.int .i64 0) Tryz.underlying23 hi hz0 .i64 .i64 (n:Int) (n:Int) (by omega) (Int.le_refl _) (by rw [hz1,Int.toNat_natCast];omega) (by rw [hz2];omega) (by omega);rw [h,hz1,Nat.mul_one,Int.toNat_natCast];rw [show (Value.int .i64 0).cells=#[Value.int .i64 0] from rfl,made_one]
theorem make_rows (n:Nat) (hn:n≤1000000) (w:World):(Instr.makeSlice 120 (.int .i64 (n:Int)) (.int .i64 (n:Int))).run Tryz.prog w=.ok (.slice (some ⟨w.heap.size,0,none⟩) n n) (w.alloc (.cells (Array.replicate n (Value.slice none 0 0)) 23)):=by
 obtain ⟨i0,hi,hz0,hz1,hz2⟩:=info_parts info_row;have h:=run_makeSlice (P:=Tryz.prog) w 120 23 i0 (.slice none 0 0) Tryz.underlying120 hi hz0 .i64 .i64 (n:Int) (n:Int) (by omega) (Int.le_refl _) (by rw [hz1,Int.toNat_natCast];omega) (by rw [hz2];omega) (by omega);rw [h,hz1,Nat.mul_one,Int.toNat_natCast];rw [show (Value.slice none 0 0).cells=#[Value.slice none 0 0] from rfl,made_one]
theorem rep_ints (n:Nat):Array.replicate n (Value.int .i64 0)=((List.replicate n (0:Int)).map (Value.int .i64)).toArray:=by simp
/-- Strides that have been filled from the end down to the j-th. -/
def fillF (sh:List Int) (j:Nat):List Int:=List.replicate j 0++(strF sh).drop j
theorem fill_all (sh:List Int):fillF sh sh.length=List.replicate sh.length 0:=by unfold fillF;rw [List.drop_eq_nil_of_le (by rw [strF_len];exact Nat.le_refl _),List.append_nil]
theorem fill_none (sh:List Int):fillF sh 0=strF sh:=rfl
theorem fill_set {sh:List Int} {j:Nat} (h:j<sh.length):(fillF sh (j+1)).set j (prodL (sh.drop (j+1)))=fillF sh j:=by
 unfold fillF;have e:(strF sh).drop j=prodL (sh.drop (j+1)) :: (strF sh).drop (j+1):=by
  rw [List.drop_eq_getElem_cons (by rw [strF_len];exact h)]
  congr 1
  have:=strF_get sh j h;rw [List.getD_eq_getElem?_getD,List.getElem?_eq_getElem (by rw [strF_len];exact h)] at this;exact this
 rw [e,List.replicate_succ',List.append_assoc,List.set_append_right _ _ (by simp)];simp
theorem fill_len {sh:List Int} {j:Nat} (h:j≤sh.length):(fillF sh j).length=sh.length:=by
 unfold fillF;rw [List.length_append,List.length_replicate,List.length_drop,strF_len];omega
end
section
open Go.RowKit Go.Shelf
attribute [local go_sem] Oper.semAt_some
theorem backwardI_any (a:Option Addr) (n c:Nat) (w:World):Calls Tryz.prog 158 #[.slice a n c] w fun e w'=>e=.returned (.func (.func 174) #[] #[.pointer (some ⟨w.heap.size,0,none⟩)])∧w'=w.alloc (.cells #[.slice a n c] 23):=by
 go_enter Tryz.func158,Tryz.ntmps158;go_wp2
 go_ret
 exact ⟨rfl,rfl⟩
theorem BoxA.putZ {w:World} {B ty:Nat} {xs:Array Value} (h:BoxA w B ty xs) (i:Nat) (v:Value):BoxA (w.setCell ⟨B,i,none⟩ v) B ty (xs.setIfInBounds i v):=by
 unfold BoxA at h ⊢;simp [World.setCell,Array.getElem?_modify,h]
theorem KeepE.cell1 {n₀:Nat} {Ex:Nat→Prop} (W:World) {g:Nat} (o:Nat) (v:Value) (h1:n₀≤g) (h2:Ex g):KeepE n₀ Ex W (W.setCell ⟨g,o,none⟩ v):=
 ⟨(Below.refl _ W).setCell (p:=⟨g,o,none⟩) h1 v,fun k cs t fr _ h4 h5=>by
  have hne:¬ g=k:=fun e=>h4 (e ▸ h2);have e1:(W.setCell ⟨g,o,none⟩ v).heap[k]? = W.heap[k]?:=by simp [World.setCell,Array.getElem?_modify,hne]
  rw [e1];exact h5⟩
theorem KeepE.cell1D {n₀:Nat} {Ex:Nat→Prop} (W:World) {g:Nat} (o:Nat) (v:Value) (h1:n₀≤g) (h2:Ex g):KeepE n₀ Ex W (W.drew.setCell ⟨g,o,none⟩ v):=by
 have h:=KeepE.cell1 (n₀:=n₀) (Ex:=Ex) W o v h1 h2;exact ⟨⟨h.below.os,h.below.tape,h.below.output,h.below.size,h.below.block⟩,h.cells⟩
theorem othersD (W:World) (a:Addr) (v:Value):KeepsOthers W (W.drew.setCell a v):=⟨(KeepsOthers.setCell W a v).size,(KeepsOthers.setCell W a v).same⟩
theorem quo_great {P q:Int} (hq:0<q) (hq1:q≤4096) (hP:P≤4096):decide (IntKind.i64.wrap (Int.tdiv 9223372036854775807 q)<P)=false:=by
 rw [Int.tdiv_eq_ediv_of_nonneg (by decide)];have h1:4096≤9223372036854775807/q:=Int.le_ediv_of_mul_le hq (by omega);have h2:9223372036854775807/q≤9223372036854775807:=Int.ediv_le_self _ (by decide);rw [IntKind.wrap_i64];apply decide_eq_false;omega
theorem backI_next {sh:List Int} {pre r:List (Nat×Int)} {x:Nat×Int} (h:pre++x :: r=backI sh):∃ j,j+1+pre.length=sh.length∧x=(j,sh.getD j 0):=by
 have hl:(pre++x :: r).length=sh.length:=by rw [h,backI_len]
 rw [List.length_append,List.length_cons] at hl;have h1:=backI_at (rs:=sh) (k:=pre.length) (by omega);rw [← h,List.getElem?_append_right (Nat.le_refl _),Nat.sub_self] at h1;have h1:some x=some (sh.length - 1 - pre.length,sh.getD (sh.length - 1 - pre.length) 0):=h1;exact ⟨sh.length - 1 - pre.length,by omega,Option.some.inj h1⟩
/-- A shape whose items, along its last axes, are not too many. -/
def ShOK (sh:List Int):Prop:=(sizeF sh).2=0∧(∀ x∈sh,0≤x∧x≤4096)∧∀ k,prodL (sh.drop k)≤4096
theorem rdN_box {W:World} {g:Nat} {xs:List Int} {D:Nat→Prop} (h:BoxA W g 3 (xs.map (Value.int .i64)).toArray) (hD:D g) (hin:∀ x∈xs,-9223372036854775808≤x∧x≤9223372036854775807) (hl:xs.length≤9223372036854775807):RdN D W (.slice (some ⟨g,0,none⟩) xs.length xs.length) xs:=
 ⟨hin,_,_,rfl,Nat.le_refl _,hl,(fun h=>by cases h),Or.inr ⟨g,0,rfl,hD,fun j hj=>by
  rw [Nat.zero_add];exact h.cell j (by have:=getD_map_i64 xs j hj;simpa using this)⟩⟩
theorem strF_in {sh:List Int} (h:ShOK sh):∀ x∈strF sh,0≤x∧x≤4096:=by
 intro x hx;obtain ⟨k,hk,rfl⟩:=List.getElem_of_mem hx;rw [strF_len] at hk;have e:=strF_get sh k hk;rw [List.getD_eq_getElem?_getD,List.getElem?_eq_getElem (by rw [strF_len];exact hk),Option.getD_some] at e;rw [e];exact ⟨prodL_nonneg _ (fun x hx=>(h.2.1 x (List.mem_of_mem_drop hx)).1),h.2.2 (k+1)⟩
theorem strides_any {D:Nat→Prop} {w:World} {x1:Option Addr} {y1:Nat} {sh:List Int} (h:RdN D w (.slice x1 sh.length y1) sh) (hD:∀ g,D g→g<w.heap.size) (hs:ShOK sh) :
    Calls Tryz.prog 139 #[.slice x1 sh.length y1] w fun e w'=>∃ z u,e=.returned (.slice z sh.length u)∧RdN (Fr w.heap.size w'.heap.size) w' (.slice z sh.length u) (strF sh)∧Below w.heap.size w w':=by
 have HR:Hid (RdN D w (.slice x1 sh.length y1) sh):=h;have HD:Hid (∀ g,D g→g<w.heap.size):=hD;have HS:Hid (ShOK sh):=hs;have hE:Hid ((sizeF sh).2=0):=hs.1;have hrk:sh.length≤8:=size_rank hs.1;clear h hD hs;have g1:=below_alloc w (.cells #[.slice none 0 0] 23);have R1:=boxA_new w #[.slice none 0 0] 23;have s0:w.heap.size<(w.alloc (.cells #[.slice none 0 0] 23)).heap.size:=by simp
 refine (callsIn_wide (n:=6)).1 ?_;refine callsIn_of_wp_marks Tryz.func139 rfl trivial ?_ rfl;simp only [Tryz.ntmps139,List.size_toArray,List.length_cons,List.length_nil,Nat.reduceAdd,Nat.reduceSub,Array.replicate_succ,Array.replicate_zero,List.push_toArray,List.append_toArray,List.nil_append,List.cons_append]
 gi_wp2_with fail
 generalize hA:w.alloc (.cells #[.slice none 0 0] 23)=v at *;clear hA;refine ⟨trivial,?_⟩;refine (callsIn_wide.2 (arrSize_any (HR.out.imp (fun _ h=>h) (Agree.of g1 HD.out)) (fun g hg=>by have:=HD.out g hg;omega))).mono ?_;rintro e w1 ⟨rfl,hw⟩;obtain rfl:=hw.symm;rw [hE.out];have hmk:=make_ints sh.length (by omega);have k2:=below_alloc v (.cells (Array.replicate sh.length (Value.int .i64 0)) 3);have B2:=boxA_new v (Array.replicate sh.length (Value.int .i64 0)) 3;have k3:=below_alloc (v.alloc (.cells (Array.replicate sh.length (Value.int .i64 0)) 3)) (.cells #[.slice (some ⟨v.heap.size,0,none⟩) sh.length sh.length] 23);have B3:=boxA_new (v.alloc (.cells (Array.replicate sh.length (Value.int .i64 0)) 3)) #[.slice (some ⟨v.heap.size,0,none⟩) sh.length sh.length] 23;have k4:=below_alloc ((v.alloc (.cells (Array.replicate sh.length (Value.int .i64 0)) 3)).alloc (.cells #[.slice (some ⟨v.heap.size,0,none⟩) sh.length sh.length] 23)) (.cells #[.int .i64 1] 3);have B4:=boxA_new ((v.alloc (.cells (Array.replicate sh.length (Value.int .i64 0)) 3)).alloc (.cells #[.slice (some ⟨v.heap.size,0,none⟩) sh.length sh.length] 23)) #[.int .i64 1] 3
 gi_wp2_with fail
 refine ⟨trivial,?_⟩;refine (callsIn_wide.2 (backwardI_any _ _ _ _)).mono ?_;rintro e w2 ⟨rfl,rfl⟩
 gi_wp2_with fail
 have k5:=below_alloc (((v.alloc (.cells (Array.replicate sh.length (Value.int .i64 0)) 3)).alloc (.cells #[.slice (some ⟨v.heap.size,0,none⟩) sh.length sh.length] 23)).alloc (.cells #[.int .i64 1] 3)) (.cells #[.slice x1 sh.length y1] 23);have B5:=boxA_new (((v.alloc (.cells (Array.replicate sh.length (Value.int .i64 0)) 3)).alloc (.cells #[.slice (some ⟨v.heap.size,0,none⟩) sh.length sh.length] 23)).alloc (.cells #[.int .i64 1] 3)) #[.slice x1 sh.length y1] 23;obtain ⟨va,hva⟩:∃ va,v.alloc (.cells (Array.replicate sh.length (Value.int .i64 0)) 3)=va:=⟨_,rfl⟩;have sa:va.heap.size=v.heap.size+1:=by rw [← hva];simp
 rw [hva] at k2 B2 k3 B3 k4 B4 k5 B5 ⊢;obtain ⟨vb,hvb⟩:∃ vb,va.alloc (.cells #[.slice (some ⟨v.heap.size,0,none⟩) sh.length sh.length] 23)=vb:=⟨_,rfl⟩;have sb:vb.heap.size=v.heap.size+1+1:=by rw [← hvb,World.size_alloc,sa]
 rw [hvb] at k3 B3 k4 B4 k5 B5 ⊢;obtain ⟨vc,hvc⟩:∃ vc,vb.alloc (.cells #[.int .i64 1] 3)=vc:=⟨_,rfl⟩;have sc:vc.heap.size=v.heap.size+1+1+1:=by rw [← hvc,World.size_alloc,sb]
 rw [hvc] at k4 B4 k5 B5 ⊢;obtain ⟨W0,hW0⟩:∃ W0,vc.alloc (.cells #[.slice x1 sh.length y1] 23)=W0:=⟨_,rfl⟩;have sW:W0.heap.size=v.heap.size+1+1+1+1:=by rw [← hW0,World.size_alloc,sc]
 rw [hW0] at k5 B5 ⊢;clear hva hvb hvc hW0 hmk;rw [rep_ints] at B2;have hsv:=g1.size;have BO:=((B2.below k3 (by omega)).below k4 (by omega)).below k5 (by omega);have BS:=(B3.below k4 (by omega)).below k5 (by omega);have BT:=B4.below k5 (by omega);have BR:=(((R1.below k2 (by omega)).below k3 (by omega)).below k4 (by omega)).below k5 (by omega);rw [sa] at BS;rw [sb] at BT;rw [sc] at B5;have kW:Below v.heap.size v W0:=((k2.trans (k3.mono (by omega))).trans (k4.mono (by omega))).trans (k5.mono (by omega));have gW:Below w.heap.size w W0:=g1.trans (kW.mono (by omega));clear B2 B3 B4 k2 k3 k4 k5 R1;have hnR:¬ (w.heap.size=v.heap.size∨w.heap.size=v.heap.size+1+1):=by omega
 have hD0:∀ g,D g→g<w.heap.size:=HD.out;have HSEQ:Hid _:=backI_pays (w:=W0) (D:=D) (rs:=sh) (a:=x1) (cap:=y1) (Bn:=v.heap.size+1+1+1) (n₀:=w.heap.size) 5 (by omega) hD0 (HR.out.imp (fun _ h=>h) (Agree.of gW HD.out)) (by omega) B5 (Kp:=KeepE w.heap.size (fun g=>g=v.heap.size∨g=v.heap.size+1+1)) (fun hb hk=>⟨hk.below,by
  have h2:=hk.box hb (by omega) (by omega);unfold BoxA at hb h2;rw [h2,hb]⟩)
 clear hD0;refine wpIn_range_paysX rfl (by omega) (gf:=174) (lb:=#[.pointer (some ⟨v.heap.size+1+1+1,0,none⟩)]) rfl trivial (enters_of Tryz.func174 (by kernel_rfl) rfl)
  HSEQ.out
  (fun h h'=>h.trans h') (fun W l o o' hl ho hc _=>KeepE.put W l o o' (by omega) ho hc) (Below.refl _ _) (fun _=>rfl)
  (fun pre W=>∃ j,j+pre.length=sh.length∧BoxA W v.heap.size 3 ((fillF sh j).map (Value.int .i64)).toArray∧BoxA W (v.heap.size+1) 23 #[.slice (some ⟨v.heap.size,0,none⟩) sh.length sh.length]∧BoxA W (v.heap.size+1+1) 3 #[.int .i64 (prodL (sh.drop j))]∧BoxA W w.heap.size 23 #[.slice none 0 0]∧Below w.heap.size w W)
  ?hI ⟨sh.length,by simp,by rw [fill_all];exact BO,BS,by rw [List.drop_eq_nil_of_le (Nat.le_refl _)];exact BT,BR,gW⟩ ?hS
  (fun _ _ _=>False) ?hIx
  (fun pre x a' W=>(∃ r,pre++x :: r=backI sh)∧a'={ tmps:=#[.slice x1 sh.length y1,undef,.pointer (some ⟨w.heap.size,0,none⟩),.int .i64 (sizeF sh).1,.int .i64 0,.pointer (some ⟨v.heap.size+1,0,none⟩),.pointer (some ⟨v.heap.size+1+1,0,none⟩),.int .i64 x.1,.int .i64 x.2,.tuple #[.int .i64 (sizeF sh).1,.int .i64 0],.slice x1 sh.length y1,.tuple #[.int .i64 (sizeF sh).1,.int .i64 0],.int .i64 (sizeF sh).1,.int .i64 0,.int .i64 0,.bool false,.slice x1 sh.length y1,.int .i64 (sh.length:Int),.slice (some ⟨v.heap.size,0,none⟩) sh.length sh.length,.slice x1 sh.length y1,.func (.func 174) #[] #[.pointer (some ⟨v.heap.size+1+1+1,0,none⟩)],.int .i64 x.1,.int .i64 x.2,undef,undef,undef,undef,undef,undef,undef,undef,undef,undef,undef,undef,undef,undef,undef,undef],defers:=[] })
  ?hAx ?assign ?body ?done ?stop
 case hI=>
  rintro s A B row ⟨j,h0,b1,b2,b3,b4,b5⟩ hg hrow;exact ⟨j,h0,boxA_kept b1 hg (fun k e=>(hrow k e).2),boxA_kept b2 hg (fun k e=>(hrow k e).2),boxA_kept b3 hg (fun k e=>(hrow k e).2),boxA_kept b4 hg (fun k e=>(hrow k e).2),b5.grown hg (by have:=b5.size;omega) (fun k e=>by have:=(hrow k e).1;omega)⟩
 case hS=>
  rintro s A B row h hg hrow;exact h
 case hIx=>
  rintro c s A B row h;exact h.elim
 case hAx=>
  rintro pre x a' _ A B row h hg hrow;exact h
 case assign=>
  rintro l' pre x V K hi hG hK;dsimp only [encBI]
  gi_wp2
  exact hK _ _ (KeepsOthers.refl _ |>.from _) (KeepE.refl _ _ _) hi ⟨hG,rfl⟩
 case body=>
  rintro l' pre x a' V ⟨jj,h0,b1,b2,b3,b4,b5⟩ ⟨⟨rr,hG⟩,rfl⟩;obtain ⟨j,hj,rfl⟩:=backI_next hG;obtain rfl:jj=j+1:=by omega
  have hjl:j<sh.length:=by omega
  have HJ:Hid (j+(pre++[(j,sh.getD j 0)]).length=sh.length):=by unfold Hid;rw [List.length_append,List.length_singleton];omega
  have HPD:Hid (prodL (sh.drop j)=sh.getD j 0*prodL (sh.drop (j+1))):=prodL_drop sh j hjl;have HFL:Hid ((fillF sh (j+1)).set j (prodL (sh.drop (j+1)))=fillF sh j):=fill_set hjl;have hp0:0≤prodL (sh.drop (j+1)):=prodL_nonneg _ (fun x hx=>(HS.out.2.1 x (List.mem_of_mem_drop hx)).1);have hp1:=HS.out.2.2 (j+1);have hp2:=HS.out.2.2 j;have hp3:0≤prodL (sh.drop j):=prodL_nonneg _ (fun x hx=>(HS.out.2.1 x (List.mem_of_mem_drop hx)).1);have hm:sh.getD j 0∈sh:=by rw [List.getD_eq_getElem?_getD,List.getElem?_eq_getElem hjl];exact List.getElem_mem hjl
  obtain ⟨hq0,hq1⟩:=HS.out.2.1 _ hm;rw [HPD.out] at hp2 hp3;have HPD2:Hid (∀ u:Int,u=prodL (sh.drop (j+1))*sh.getD j 0→u=prodL (sh.drop j)):=fun u hu=>by rw [hu,HPD.out,Int.mul_comm]
  have hwm:IntKind.i64.wrap (prodL (sh.drop (j+1))*sh.getD j 0)=prodL (sh.drop (j+1))*sh.getD j 0:=by
   rw [Int.mul_comm] at hp2 hp3;rw [IntKind.wrap_i64];omega
  have c5:=b2.cell 0 rfl;have c6:=b3.cell 0 rfl;have f6:=b3.frozen 0;have fo:=b1.frozen j;have co:=b1.cell j (v:=.int .i64 ((fillF sh (j+1)).getD j 0)) (by
   have:=getD_map_i64 (fillF sh (j+1)) j (by rw [fill_len (by omega)];exact hjl);simpa using this)
  have hjl2:(j:Int)<(sh.length:Int):=by omega
  have i0:(0:Int)≤(j:Int):=by omega
  have B1:BoxA (V.setCell ⟨v.heap.size,j,none⟩ (.int .i64 (prodL (sh.drop (j+1))))) v.heap.size 3 ((fillF sh j).map (Value.int .i64)).toArray:=by
   have:=b1.putZ j (.int .i64 (prodL (sh.drop (j+1))));rw [← HFL.out,List.map_set];simpa using this
  have B2:=b2.other (p:=⟨v.heap.size,j,none⟩) (by show v.heap.size≠_;omega) (.int .i64 (prodL (sh.drop (j+1))));have B3:=b3.other (p:=⟨v.heap.size,j,none⟩) (by show v.heap.size≠_;omega) (.int .i64 (prodL (sh.drop (j+1))));have B4:=b4.other (p:=⟨v.heap.size,j,none⟩) (by show v.heap.size≠_;omega) (.int .i64 (prodL (sh.drop (j+1))));have K1:KeepE w.heap.size (fun g=>g=v.heap.size∨g=v.heap.size+1+1) V _:=KeepE.cell1 V j (.int .i64 (prodL (sh.drop (j+1)))) hsv (Or.inl rfl);have G1:=b5.setCell (p:=⟨v.heap.size,j,none⟩) hsv (.int .i64 (prodL (sh.drop (j+1))));have O1:=KeepsOthers.setCell V ⟨v.heap.size,j,none⟩ (.int .i64 (prodL (sh.drop (j+1))));clear hm HPD HFL hG hp2 hp3;generalize prodL (sh.drop (j+1))=P at *;generalize sh.getD j 0=q at *;obtain ⟨V1,hV1⟩:∃ V1,V.setCell ⟨v.heap.size,j,none⟩ (.int .i64 P)=V1:=⟨_,rfl⟩;rw [hV1] at B1 B2 B3 B4 K1 G1 O1;generalize (fillF sh (j+1)).getD j 0=u0 at *;have c6':=B3.cell 0 rfl;have f6':=B3.frozen 0;have FIN:Hid (∀ u:Int,u=P*q→KeepsFrom W0.heap.size V ((V1.setCell ⟨v.heap.size+1+1,0,none⟩ (.int .i64 u)).drew)∧KeepE w.heap.size (fun g=>g=v.heap.size∨g=v.heap.size+1+1) V ((V1.setCell ⟨v.heap.size+1+1,0,none⟩ (.int .i64 u)).drew)∧∃ j',j'+(pre++[(j,q)]).length=sh.length∧BoxA ((V1.setCell ⟨v.heap.size+1+1,0,none⟩ (.int .i64 u)).drew) v.heap.size 3 ((fillF sh j').map (Value.int .i64)).toArray∧BoxA ((V1.setCell ⟨v.heap.size+1+1,0,none⟩ (.int .i64 u)).drew) (v.heap.size+1) 23 #[.slice (some ⟨v.heap.size,0,none⟩) sh.length sh.length]∧BoxA ((V1.setCell ⟨v.heap.size+1+1,0,none⟩ (.int .i64 u)).drew) (v.heap.size+1+1) 3 #[.int .i64 (prodL (sh.drop j'))]∧BoxA ((V1.setCell ⟨v.heap.size+1+1,0,none⟩ (.int .i64 u)).drew) w.heap.size 23 #[.slice none 0 0]∧Below w.heap.size w ((V1.setCell ⟨v.heap.size+1+1,0,none⟩ (.int .i64 u)).drew)):=by
   intro u hu;have q1:=B1.other (p:=⟨v.heap.size+1+1,0,none⟩) (by show v.heap.size+1+1≠_;omega) (.int .i64 u);have q2:=B2.other (p:=⟨v.heap.size+1+1,0,none⟩) (by show v.heap.size+1+1≠_;omega) (.int .i64 u);have q3:=B3.one (.int .i64 u);have q4:=B4.other (p:=⟨v.heap.size+1+1,0,none⟩) (by show v.heap.size+1+1≠_;omega) (.int .i64 u);have q5:=G1.setCell (p:=⟨v.heap.size+1+1,0,none⟩) (by show w.heap.size≤v.heap.size+1+1;omega) (.int .i64 u);rw [HPD2.out u hu] at q1 q2 q3 q4 q5 ⊢;exact ⟨(O1.trans (othersD V1 _ _)).from _,K1.trans (KeepE.cell1D V1 0 _ (by omega) (Or.inr rfl)),j,HJ.out,q1,q2,q3,q4,⟨q5.os,q5.tape,q5.output,q5.size,q5.block⟩⟩
  clear HPD2 HJ O1 K1 G1 B1 B2 B4;have hqd:q=0∨0<q:=by omega
  gi_wp2_with fail
  have d6:=c6';rcases hqd with rfl | hq
  · have hg:decide ((0:Int) > 0)=false:=by decide
    refine wpIn_noPanic ?_
    gi_region
    all_goals
     refine noPanic_normal ?_
     gi_wp2_with fail
     exact FIN.out 0 (by simp)
  · have hg:decide (q > 0)=true:=decide_eq_true hq
    have hg2:decide (0<q)=true:=decide_eq_true hq;have hq0':¬ q=0:=by omega
    have hq2:(q==0)=false:=by rw [beq_eq_false_iff_ne];omega
    have hqq:=quo_great hq hq1 hp1;refine wpIn_noPanic ?_
    gi_region
    all_goals
     refine noPanic_normal ?_
     gi_wp2_with fail
     exact FIN.out _ rfl
 case done=>
  rintro Dn xs V hDn hS ⟨j,h0,b1,b2,b3,b4,b5⟩ hdef;have hjz:j=0:=by
   have:=congrArg List.length hS;rw [backI_len] at this;omega
  subst hjz;have c5:=b2.cell 0 rfl;have f2:=b4.frozen 0;have c2:=b4.cell 0 rfl;have hP:=b4.one (.slice (some ⟨v.heap.size,0,none⟩) sh.length sh.length);have HO:=b1.other (p:=⟨w.heap.size,0,none⟩) (by show w.heap.size≠_;omega) (.slice (some ⟨v.heap.size,0,none⟩) sh.length sh.length);have G1:=b5.setCell (p:=⟨w.heap.size,0,none⟩) (Nat.le_refl _) (.slice (some ⟨v.heap.size,0,none⟩) sh.length sh.length);have hK:=(KeepsOthers.setCell V ⟨w.heap.size,0,none⟩ (.slice (some ⟨v.heap.size,0,none⟩) sh.length sh.length)).same Dn _ hdef rfl;clear hS b1 b2 b3 b5
  gi_wp2
  refine ⟨by simp,.inl ⟨_,_,rfl,run_takeDeferred hK,?_⟩⟩;have hgp:=grownBy_putObj' (V.setCell ⟨w.heap.size,0,none⟩ (.slice (some ⟨v.heap.size,0,none⟩) sh.length sh.length)) Dn (.deferred none);have hX:=boxA_grown hP hgp (fun e=>by cases e;omega);have x0:=hX.cell 0 rfl;have HO':=boxA_grown HO hgp (fun e=>by cases e;omega);have kF:=G1.grown hgp (by have:=b4.lt;simp [World.setCell];omega) (fun k e=>by cases e;omega);rw [fill_none] at HO';refine ⟨.slice (some ⟨v.heap.size,0,none⟩) sh.length sh.length,by simp [results,Tryz.results139,go_sem,x0],_,_,rfl,?_,kF⟩;have hl:=strF_len sh;have key:=rdN_box (D:=Fr w.heap.size _) HO' ⟨by omega,HO'.lt⟩ (fun x hx=>by have:=strF_in HS.out x hx;omega) (by omega);rw [hl] at key;exact key
 case stop=>
  rintro Dn c xs V hDn hSp h hdef;exact h.elim
end
end Go.Proofs.YtheaeggecpfcbaaGreat
