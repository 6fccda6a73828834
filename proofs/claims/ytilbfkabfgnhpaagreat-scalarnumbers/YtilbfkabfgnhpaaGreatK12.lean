/- array.vector over an iterator of items without boxes. -/
import Derived.Test.YtilbfkabfgnhpaaGreatK11
import Derived.Test.YtilbfkabfgnhpaaGreatK7
import Derived.Test.YtilbfkabfgnhpaaGreatK8
import Derived.Stop.RegionWithIn
import Derived.Test.YtilbfkabfgnhpaaGreatKA
set_option maxRecDepth 100000
set_option maxHeartbeats 6400000
set_option linter.unusedVariables false
set_option linter.unusedSimpArgs false
namespace Go.Proofs.YtilbfkabfgnhpaaGreat
section
open Go.RowKit Go.Shelf
attribute [local go_sem] Oper.semAt_some
theorem wpListIn_append_at {F:Fence} {n:Nat} {P:Program} (w:World) {ops:Array Oper} {rest:List Oper} {o:Oper} {a:Act} {Q:Exit→Act→World→Prop}
    (hg:o.guard=none) (s x:Operand) (t:TypeId) (hop:o.op=Op.call { callee:=Callee.builtin Builtin.append,args:=#[s,x],argTypes:=#[t,t] })
    (base:Nat) (e:TypeId) (i:TypeInfo) (z:Value) (size bytes:Nat) (h1:P.underlying t=some (.slice e)) (h2:P.info? e=some i) (h3:i.zero=some z) (h4:i.size=size) (h5:i.bytes=bytes) (h6:z.cells.size=size) (h7:0<size)
    (v:Value) (k:Nat) (xs:List Value) (hs:a.eval s=v) (hown:w.ownsRow base e size v k xs) (ad:Addr) (m c:Nat) (news:List Value) (hx:a.eval x=.slice (some ad) m c) (hn:news.length=m*size)
    (hc:∀ j u,news[j]? = some u→w.cell? (ad.add j)=some u) (h1c:∀ u∈news,u.oneCell'=true) (b1:k+m≤maxLen) (b2:(k+m)*bytes≤140737488355328) (b3:base≤w.heap.size)
    (hK:∀ v' w',w'.ownsRow base e size v' (k+m) (xs++news)→w.grownBy w' v.ownBlock→(v'.ownBlock=v.ownBlock∨v'.ownBlock=some w.heap.size)→wpListIn F n P ops Q rest (a.put o.dst v') w') :
    wpListIn F n P ops Q (o :: rest) a w:=by
 refine wpListIn_plain hg fun K hK' => ?_;obtain ⟨v',w',hrun,r1,r2,r3,r4⟩:=run_append_own_at (P:=P) w base t o.type e i z size bytes h1 h2 h3 h4 h5 h6 h7 v k xs hown ad m c news hn hc h1c b1 b2 b3;unfold Oper.wpIn;refine ⟨?_,?_⟩
 · simp [Oper.about,hop,resolve,Target.leads,Sem.run_pure]
 · rw [Oper.semAt_plain F _ _ (by rw [hop];intro c hc';cases hc')]
   simp [execOp,hop,resolve,invoke,builtin,hs,hx,hrun,Result.andThen];exact hK' _ _ (hK v' w' r1 r2 r4)
/-- A block of cells that holds no items. -/
def NotRow (W:World) (g:Nat):Prop:=∃ cs ty fz,W.heap[g]? = some (.cells cs ty fz)∧ty≠93
def ItemAt (Z:Nat) (W:World) (x:IV) (t:Tr):Prop:=IsIt 0 (fun g=>Z≤g∧NotRow W g) W x t
theorem ItemAt.grown {Z:Nat} {A B:World} {x:IV} {t:Tr} {row:Option Nat} (h:ItemAt Z A x t) (hg:A.grownBy B row) (hrow:∀ k,row=some k→∃ o:Obj,A.heap[k]? = some o∧o.isCells=false):ItemAt Z B x t:=by
 have hk:∀ g,NotRow A g→B.heap[g]? = A.heap[g]?:=by
  rintro g ⟨cs,ty,fz,e,_⟩;refine hg.block g (lt_of_block e) (fun hr => ?_);obtain ⟨o,ho,hc⟩:=hrow g hr.symm;rw [e] at ho
  cases ho
  cases hc
 refine IsIt.imp h ?_ (fun g hg'=>hk g hg'.2);rintro g ⟨h1,h2⟩;refine ⟨h1,?_⟩;obtain ⟨cs,ty,fz,e,hne⟩:=h2;exact ⟨cs,ty,fz,by rw [hk g ⟨cs,ty,fz,e,hne⟩];exact e,hne⟩
theorem notRow_ne {W:World} {Z n g:Nat} {v:Value} {xs:List Value} (h:W.ownsRow Z 93 6 v n xs) (hg:NotRow W g):v.ownBlock≠some g:=by
 intro hv;obtain ⟨cs,ty,fz,e,hne⟩:=hg;obtain ⟨_,h | ⟨g',cap,cur,rfl,_,hh,_⟩⟩:=h
 · rw [h.1] at hv;cases hv
 · cases hv
   rw [hh] at e
   cases e
   exact hne rfl
/-- A row, where what is appended points to blocks that are there. -/
theorem RowOf.push2 {e size n Z:Nat} {El:Elem} {W w':World} {O:Obj} {v v':Value} {xs news:List Value} (hE:ElemOK size El) (ho:W.ownsRow Z e size v n xs) (he:∀ j,j<n→El (FrR Z W v) W (cellsOf xs size j) j)
    (hZ:Z≤W.heap.size) (hl:news.length=size) (hn:El (FrR Z W v) W (fun k=>news[k]?) n)
    (hr:w'.ownsRow Z e size v' (n+1) (xs++news)) (hg:(W.alloc O).grownBy w' v.ownBlock) (hv:v'.ownBlock=v.ownBlock∨v'.ownBlock=some (W.alloc O).heap.size):RowOf e size El Z w' v' (n+1):=by
 have s2:=hg.size;rw [World.size_alloc] at s2;have hx:xs.length=n*size:=ho.1;have hD:∀ g,FrR Z W v g→FrR Z w' v' g:=by
  rintro g ⟨g1,g2,g3⟩;refine ⟨g1,by omega,?_⟩;rcases hv with hv | hv
  · rw [hv];exact g3
  · rw [hv,World.size_alloc];intro h;have:=Option.some.inj h;omega
 have hA:Agree (FrR Z W v) W w':=by
  rintro g ⟨g1,g2,g3⟩;rw [hg.block g (by rw [World.size_alloc];omega) (fun h=>g3 h.symm),(below_alloc W O).block g (by omega)]
 refine ⟨_,hr,fun j hj => ?_⟩;by_cases hjn:j<n
 · refine hE _ _ _ _ _ _ _ hD hA ?_ (he j hjn)
   intro q hq;unfold cellsOf;have:j*size+q<xs.length:=by
    rw [hx];have:(j+1)*size≤n*size:=Nat.mul_le_mul_right _ (by omega);rw [Nat.add_mul] at this;omega
   rw [List.getElem?_append_left this]
 · obtain rfl:j=n:=by omega
   refine hE _ _ _ _ _ _ _ hD hA ?_ hn;intro q hq;unfold cellsOf;rw [List.getElem?_append_right (by omega),hx]
   congr 1
   omega
/-- A vector's tree. -/
def vecK (tp:Tr) (ts:List Tr):List Tr:=if ts.length=0 then [tp] else ts.take 4096
def vecT (tp:Tr) (ts:List Tr):Tr:=arrT [(((ts.take 4096).length:Nat):Int)] (vecK tp ts)
theorem rdN_one {W:World} {D:Nat→Prop} {g:Nat} {n:Int} (h:BoxA W g 3 #[.int .i64 n]) (hD:D g) (h0:0≤n) (h1:n≤4096):RdN D W (.slice (some ⟨g,0,none⟩) 1 1) [n]:=by
 refine ⟨fun x hx => ?_,_,1,rfl,Nat.le_refl _,by omega,(fun h=>by cases h),Or.inr ⟨g,0,rfl,hD,fun j hj => ?_⟩⟩
 · simp at hx;subst hx;omega
 · have hj:j<1:=hj
   obtain rfl:j=0:=by omega
   exact h.cell 0 rfl
theorem itc_of {f:Nat} {D:Nat→Prop} {W:World} {g:Nat} {x:IV} {t:Tr} {ty:Nat} (h:IsIt f D W x t) (hB:BoxA W g ty #[.int .u8 x.k,.bool x.b,.slice x.a1 x.n1 x.c1,.slice x.a2 x.n2 x.c2,.int .i32 x.c,.slice x.a3 x.n3 x.c3]):ItC (ArV f D W) D W g (0+0*6) t:=by
 refine ⟨x.a1,x.c1,x.a2,x.c2,x.a3,x.c3,⟨?_,?_,?_,?_,?_,?_⟩,h.v⟩
 · rw [← h.k];exact hB.cell 0 rfl
 · rw [← h.b];exact hB.cell 1 rfl
 · rw [← h.n1];exact hB.cell 2 rfl
 · rw [← h.n2];exact hB.cell 3 rfl
 · rw [← h.c];exact hB.cell 4 rfl
 · rw [← h.n3];exact hB.cell 5 rfl
theorem vector_any {w:World} {gf:Nat} {lb:Array Value} {p:IV} {tp:Tr} {Dp:Nat→Prop} {Gd:World→List IV→IV→World→Prop} {Sx:World→List IV→World→Prop} {Sp:World→List IV→Prop} {ts:List Tr}
    (eg:∀ args w,(callFunc gf args).run Tryz.prog w=.ok (.enter gf args) w) (hp:∀ W0,Below w.heap.size w W0→PaysX Fence.wide 5 Tryz.prog gf lb IV.encs (KeepW w.heap.size) (Gd W0) (Sx W0) (Sp W0) W0)
    (hS:∀ W0,OwnFrom W0.heap.size (Sx W0)) (hSl:∀ W0 xs W,Sx W0 xs W→xs.length=ts.length) (hGd:∀ W0 pre x W,Gd W0 pre x W→pre.length<ts.length∧ItemAt W0.heap.size W x (ts.getD pre.length tr0))
    (hpr:IsIt 0 Dp w p tp) (hDp:∀ g,Dp g→g<w.heap.size) :
    Calls Tryz.prog 76 #[.agg #[.int .u8 p.k,.bool p.b,.slice p.a1 p.n1 p.c1,.slice p.a2 p.n2 p.c2,.int .i32 p.c,.slice p.a3 p.n3 p.c3],.func (.func gf) #[] lb] w fun e w'=>∃ z1 m1 u1 z2 m2 u2,e=.returned (.agg #[.slice z1 m1 u1,.slice z2 m2 u2])∧ArV 1 (fun g=>Dp g∨Fr w.heap.size w'.heap.size g) w' (.slice z1 m1 u1) (.slice z2 m2 u2) (vecT tp ts)∧Below w.heap.size w w':=by
 have g1:=below_alloc w (.cells #[.int .u8 p.k,.bool p.b,.slice p.a1 p.n1 p.c1,.slice p.a2 p.n2 p.c2,.int .i32 p.c,.slice p.a3 p.n3 p.c3] 93);have g2:=below_alloc (w.alloc (.cells #[.int .u8 p.k,.bool p.b,.slice p.a1 p.n1 p.c1,.slice p.a2 p.n2 p.c2,.int .i32 p.c,.slice p.a3 p.n3 p.c3] 93)) (.cells #[.slice none 0 0,.slice none 0 0] 51);have g3:=below_alloc ((w.alloc (.cells #[.int .u8 p.k,.bool p.b,.slice p.a1 p.n1 p.c1,.slice p.a2 p.n2 p.c2,.int .i32 p.c,.slice p.a3 p.n3 p.c3] 93)).alloc (.cells #[.slice none 0 0,.slice none 0 0] 51)) (.cells #[.slice none 0 0] 49);have RP:=((boxA_new w #[.int .u8 p.k,.bool p.b,.slice p.a1 p.n1 p.c1,.slice p.a2 p.n2 p.c2,.int .i32 p.c,.slice p.a3 p.n3 p.c3] 93).below g2 (by simp)).below g3 (by simp;omega);have RA:=(boxA_new (w.alloc (.cells #[.int .u8 p.k,.bool p.b,.slice p.a1 p.n1 p.c1,.slice p.a2 p.n2 p.c2,.int .i32 p.c,.slice p.a3 p.n3 p.c3] 93)) #[.slice none 0 0,.slice none 0 0] 51).below g3 (by simp);have RL:=boxA_new ((w.alloc (.cells #[.int .u8 p.k,.bool p.b,.slice p.a1 p.n1 p.c1,.slice p.a2 p.n2 p.c2,.int .i32 p.c,.slice p.a3 p.n3 p.c3] 93)).alloc (.cells #[.slice none 0 0,.slice none 0 0] 51)) #[.slice none 0 0] 49;rw [World.size_alloc] at RA;rw [World.size_alloc,World.size_alloc] at RL;have g:Below w.heap.size w _:=(g1.trans (g2.mono (by simp))).trans (g3.mono (by simp;omega));have sW:(((w.alloc (.cells #[.int .u8 p.k,.bool p.b,.slice p.a1 p.n1 p.c1,.slice p.a2 p.n2 p.c2,.int .i32 p.c,.slice p.a3 p.n3 p.c3] 93)).alloc (.cells #[.slice none 0 0,.slice none 0 0] 51)).alloc (.cells #[.slice none 0 0] 49)).heap.size=w.heap.size+1+1+1:=by simp
 have HP:Hid (IsIt 0 Dp w p tp):=hpr;have HD:Hid (∀ g,Dp g→g<w.heap.size):=hDp;clear g1 g2 g3 hpr hDp;refine (callsIn_wide (n:=6)).1 ?_;refine callsIn_of_wp_marks Tryz.func76 rfl trivial ?_ rfl;simp only [Tryz.ntmps76,List.size_toArray,List.length_cons,List.length_nil,Nat.reduceAdd,Nat.reduceSub,Array.replicate_succ,Array.replicate_zero,List.push_toArray,List.append_toArray,List.nil_append,List.cons_append]
 gi_wp2_with fail
 generalize (((w.alloc (.cells #[.int .u8 p.k,.bool p.b,.slice p.a1 p.n1 p.c1,.slice p.a2 p.n2 p.c2,.int .i32 p.c,.slice p.a3 p.n3 p.c3] 93)).alloc (.cells #[.slice none 0 0,.slice none 0 0] 51)).alloc (.cells #[.slice none 0 0] 49))=W0 at *;obtain ⟨i0,hi,hz0,hz1,hz2⟩:=info_parts info_item3;refine wpIn_range_paysX rfl (by omega) (gf:=gf) (lb:=lb) rfl trivial eg (hp W0 g)
  (fun h h'=>h.trans h') (fun W l o o' hl ho _ hw=>keepW_put (B0:=W0.heap.size) (by omega) W l o o' hl ho hw) (Below.refl _ _) (fun _=>rfl)
  (fun pre W=>pre.length≤4096∧∃ a c,BoxA W (w.heap.size+1+1) 49 #[.slice a pre.length c]∧RowOf 93 6 (ElI 0 ts) W0.heap.size W (.slice a pre.length c) pre.length∧Below (w.heap.size+1+1) W0 W)
  ?hI ⟨by simp,none,0,RL,RowOf.nil,Below.refl _ _⟩ (hS W0)
  (fun c pre W=>c=.exit 0∧4096≤ts.length∧∃ a d,BoxA W (w.heap.size+1+1) 49 #[.slice a 4096 d]∧RowOf 93 6 (ElI 0 ts) W0.heap.size W (.slice a 4096 d) 4096∧Below (w.heap.size+1+1) W0 W) ?hIx
  (fun pre x a' W=>(pre.length<ts.length∧ItemAt W0.heap.size W x (ts.getD pre.length tr0))∧∃ Bx,W0.heap.size≤Bx∧BoxA W Bx 93 #[.int .u8 x.k,.bool x.b,.slice x.a1 x.n1 x.c1,.slice x.a2 x.n2 x.c2,.int .i32 x.c,.slice x.a3 x.n3 x.c3]∧a'={ tmps:=#[.agg #[.int .u8 p.k,.bool p.b,.slice p.a1 p.n1 p.c1,.slice p.a2 p.n2 p.c2,.int .i32 p.c,.slice p.a3 p.n3 p.c3],.func (.func gf) #[] lb,.pointer (some ⟨w.heap.size,0,none⟩),undef,.pointer (some ⟨w.heap.size+1,0,none⟩),.pointer (some ⟨w.heap.size+1+1,0,none⟩),.pointer (some ⟨Bx,0,none⟩),.func (.func gf) #[] lb,.agg #[.int .u8 x.k,.bool x.b,.slice x.a1 x.n1 x.c1,.slice x.a2 x.n2 x.c2,.int .i32 x.c,.slice x.a3 x.n3 x.c3],undef,undef,undef,undef,undef,undef,undef,undef,undef,undef,undef,undef,undef,undef,undef,undef,undef,undef,undef],defers:=[] })
  ?hAx ?assign ?body ?done ?stop
 case hI=>
  rintro s A B row ⟨h0,a,c,b1,b2,b3⟩ hg hrow;exact ⟨h0,a,c,boxA_kept b1 hg (fun k e=>(hrow k e).2),rowI_grown b2 hg (fun k e=>(hrow k e).2),b3.grown hg (by have:=b1.lt;omega) (fun k e=>by have:=(hrow k e).1;omega)⟩
 case hIx=>
  rintro c s A B row ⟨hc,hl,a,d,b1,b2,b3⟩ hg hrow;exact ⟨hc,hl,a,d,boxA_kept b1 hg (fun k e=>(hrow k e).2),rowI_grown b2 hg (fun k e=>(hrow k e).2),b3.grown hg (by have:=b1.lt;omega) (fun k e=>by have:=(hrow k e).1;omega)⟩
 case hAx=>
  rintro pre x a' _ A B row ⟨⟨h0,h1⟩,Bx,h2,h3,h4⟩ hg hrow;exact ⟨⟨h0,h1.grown hg (fun k e=>(hrow k e).2)⟩,Bx,h2,boxA_kept h3 hg (fun k e=>(hrow k e).2),h4⟩
 case assign=>
  rintro l pre x W K ⟨hl,a,c,b1,b2,b3⟩ hG hK;dsimp only [IV.encs];have s3:=b3.size;obtain ⟨q1,q2⟩:=hGd W0 pre x W hG;have q3:=q2.grown (World.grownBy_alloc W (.cells #[.int .u8 x.k,.bool x.b,.slice x.a1 x.n1 x.c1,.slice x.a2 x.n2 x.c2,.int .i32 x.c,.slice x.a3 x.n3 x.c3] 93) none) (fun k e=>by cases e);have kx:=below_alloc W (.cells #[.int .u8 x.k,.bool x.b,.slice x.a1 x.n1 x.c1,.slice x.a2 x.n2 x.c2,.int .i32 x.c,.slice x.a3 x.n3 x.c3] 93);have BX:=boxA_new W #[.int .u8 x.k,.bool x.b,.slice x.a1 x.n1 x.c1,.slice x.a2 x.n2 x.c2,.int .i32 x.c,.slice x.a3 x.n3 x.c3] 93;have c1:=b1.below kx b1.lt;have c2:=b2.below (elI_ok 0 ts) kx (Nat.le_refl _);have c3:=b3.trans (kx.mono (by have:=b1.lt;omega));have hk1:=(KeepsOthers.alloc W (.cells #[.int .u8 x.k,.bool x.b,.slice x.a1 x.n1 x.c1,.slice x.a2 x.n2 x.c2,.int .i32 x.c,.slice x.a3 x.n3 x.c3] 93));have hk2:KeepW w.heap.size W _:=⟨kx.mono (by omega),hk1.walks⟩;clear b1 b2 b3 hG kx q2
  gi_wp2
  exact hK _ _ (hk1.from _) hk2 ⟨hl,a,c,c1,c2,c3⟩ ⟨⟨q1,q3⟩,W.heap.size,s3,BX,rfl⟩
 case body=>
  rintro l pre x a' W ⟨hl,a,c,b1,b2,b3⟩ ⟨⟨q1,q2⟩,Bx,hBx,bX,rfl⟩;have s3:=b3.size;have cO:=b1.cell 0 rfl;have fO:=b1.frozen 0;by_cases hlen:pre.length=4096
  · have hd:decide (((pre.length:Nat):Int)=4096)=true:=by simp;omega
    have hd2:(((pre.length:Nat):Int)==4096)=true:=by rw [beq_iff_eq];omega
    have H1:Hid (BoxA W (w.heap.size+1+1) 49 #[.slice a 4096 c]):=by unfold Hid;rw [← hlen];exact b1
    have H2:Hid (RowOf 93 6 (ElI 0 ts) W0.heap.size W (.slice a 4096 c) 4096):=by unfold Hid;rw [← hlen];exact b2
    have H3:Hid (4096≤ts.length):=by unfold Hid;omega
    clear hlen b2 q1 q2
    gi_wp2_with fail
    exact ⟨KeepsFrom.refl _ _,rfl,H3.out,a,c,H1.out,H2.out,b3⟩
  have hd:decide (((pre.length:Nat):Int)=4096)=false:=by simp;omega
  have hd2:(((pre.length:Nat):Int)==4096)=false:=by rw [beq_eq_false_iff_ne];omega
  have m0:=bX.cell 0 rfl;have m1:=bX.cell 1 rfl;have m2:=bX.cell 2 rfl;have m3:=bX.cell 3 rfl;have m4:=bX.cell 4 rfl;have m5:=bX.cell 5 rfl;have kx:=below_alloc W (.cells #[.int .u8 x.k,.bool x.b,.slice x.a1 x.n1 x.c1,.slice x.a2 x.n2 x.c2,.int .i32 x.c,.slice x.a3 x.n3 x.c3] 93);obtain ⟨xs,ho,he⟩:=b2;have HE:Hid (∀ j,j<pre.length→ElI 0 ts (FrR W0.heap.size W (.slice a pre.length c)) W (cellsOf xs 6 j) j):=he;have HQ:Hid (ItemAt W0.heap.size W x (ts.getD pre.length tr0)):=q2;clear he q2
  gi_wp2_with (gi_at_builtin;refine wpListIn_append_at _ rfl _ _ 49 rfl W0.heap.size 93 i0 (.agg #[.int .u8 0,.bool false,.slice none 0 0,.slice none 0 0,.int .i32 0,.slice none 0 0]) 6 96 Tryz.underlying49 hi hz0 hz1 hz2 rfl (by decide) _ _ _ rfl (ho.alloc _) ⟨W.heap.size,0,none⟩ 1 1 [.int .u8 x.k,.bool x.b,.slice x.a1 x.n1 x.c1,.slice x.a2 x.n2 x.c2,.int .i32 x.c,.slice x.a3 x.n3 x.c3] rfl rfl (cells_new W #[.int .u8 x.k,.bool x.b,.slice x.a1 x.n1 x.c1,.slice x.a2 x.n2 x.c2,.int .i32 x.c,.slice x.a3 x.n3 x.c3] _) (by intro u hu;simp at hu;rcases hu with rfl | rfl | rfl | rfl | rfl | rfl <;> rfl) ?c3 ?c4 ?c5 ?_)
  case c3=>unfold maxLen;omega
  case c4=>omega
  case c5=>have:=kx.size;omega
  intro v' wa hown' hgrow hvo;obtain ⟨g',cap',rfl⟩:=row_form3 hown';have hel:ElI 0 ts (FrR W0.heap.size W (.slice a pre.length c)) W (fun k=>([.int .u8 x.k,.bool x.b,.slice x.a1 x.n1 x.c1,.slice x.a2 x.n2 x.c2,.int .i32 x.c,.slice x.a3 x.n3 x.c3]:List Value)[k]?) pre.length:=by
   have hi:=HQ.out;refine ⟨x.a1,x.c1,x.a2,x.c2,x.a3,x.c3,⟨by rw [← hi.k];rfl,by rw [← hi.b];rfl,by rw [← hi.n1];rfl,by rw [← hi.n2];rfl,by rw [← hi.c];rfl,by rw [← hi.n3];rfl⟩,?_⟩;refine (IsIt.imp hi (D':=FrR W0.heap.size W (.slice a pre.length c)) ?_ (fun _ _=>rfl)).v;rintro q ⟨h1,h2⟩;refine ⟨h1,?_,notRow_ne ho h2⟩;obtain ⟨cs,ty,fz,e,_⟩:=h2;exact lt_of_block e
  have t1:=RowOf.push2 (elI_ok 0 ts) ho HE.out s3 rfl hel (by rw [sW];exact hown') hgrow (by rw [World.size_alloc];exact hvo);have hrow:∀ j,(Value.slice a pre.length c).ownBlock=some j→w.heap.size+1+1+1≤j:=fun j hj=>by have:=(row_own ho j hj).1;omega
  have hne:(Value.slice a pre.length c).ownBlock≠some (w.heap.size+1+1):=fun e=>by have:=hrow _ e;omega
  have bO2:=boxA_grown (b1.below kx b1.lt) hgrow hne;have cO2:=bO2.cell 0 rfl;have fO2:=bO2.frozen 0;have sa:=hgrow.size;have sx:=kx.size;have kB1:Below (w.heap.size+1+1) W wa:=(kx.mono (by omega)).grown hgrow (by omega) (fun k e=>by have:=hrow k e;omega);have kF1:KeepsOthers W wa:=(KeepsOthers.alloc W _).trans (KeepsOthers.of_grownBy hgrow (fun j o e ho'=>by obtain ⟨o',ho2,hc⟩:=row_isC (ho.alloc (.cells #[.int .u8 x.k,.bool x.b,.slice x.a1 x.n1 x.c1,.slice x.a2 x.n2 x.c2,.int .i32 x.c,.slice x.a3 x.n3 x.c3] 93)) j e;rw [ho'] at ho2;cases ho2;exact hc));have T1:Hid (RowOf 93 6 (ElI 0 ts) W0.heap.size wa (.slice g' (pre.length+1) cap') (pre.length+1)):=t1;clear t1 hel hown' hgrow hvo
  gi_wp2
  have kF2:=kF1.trans (KeepsOthers.setCell wa ⟨w.heap.size+1+1,0,none⟩ (.slice g' (pre.length+1) cap'));have hlp:(pre++[x]).length=pre.length+1:=by simp
  refine ⟨kF2.from _,⟨(kB1.mono (by omega)).setCell (p:=⟨w.heap.size+1+1,0,none⟩) (show w.heap.size≤w.heap.size+1+1 by omega) _,kF2.walks⟩,by rw [hlp];omega,g',cap',?_,?_,?_⟩
  · rw [hlp];exact boxA_p1 bO2 _
  · rw [hlp];exact T1.out.setCell (elI_ok 0 ts) (a:=⟨w.heap.size+1+1,0,none⟩) (by show w.heap.size+1+1<_;omega) _
  · exact (b3.trans kB1).setCell (p:=⟨w.heap.size+1+1,0,none⟩) (Nat.le_refl _) _
 case' done=>
  rintro D xs W hD hxs ⟨hl,a,c,b1,b2,b3⟩ hK;have HX:Hid (xs.length=ts.length):=hSl W0 xs W hxs;obtain ⟨n,hn⟩:∃ n,xs.length=n:=⟨_,rfl⟩;rw [hn] at b1 b2 hl;have HN:Hid (n=(ts.take 4096).length):=by unfold Hid;rw [List.length_take,← HX.out,hn];omega
  clear hxs HX hn
 case' stop=>
  rintro D c ps W hD hsp ⟨rfl,hl4,a,c,b1,b2,b3⟩ hK;obtain ⟨n,hn⟩:∃ n:Nat,n=4096:=⟨_,rfl⟩;rw [← hn] at b1 b2;have HN:Hid (n=(ts.take 4096).length):=by unfold Hid;rw [List.length_take];omega
  have hl:n≤4096:=by omega
  clear hl4 hsp hn
 all_goals
  have s3:=b3.size;have cO:=b1.cell 0 rfl;have RP':=(RP.below b3 (by omega));have RA':=(RA.below b3 (by omega));have gW:Below w.heap.size w W:=g.trans (b3.mono (by omega));by_cases h0:n=0
  · have hd:decide (((n:Nat):Int)=0)=true:=decide_eq_true (by omega)
    have hd2:(((n:Nat):Int)==0)=true:=by rw [beq_iff_eq];omega
    have H0:Hid (n=0):=h0;have k1:=below_alloc W (.cells #[.int .i64 0] 3);have k2:=below_alloc (W.alloc (.cells #[.int .i64 0] 3)) (.cells #[.int .u8 p.k,.bool p.b,.slice p.a1 p.n1 p.c1,.slice p.a2 p.n2 p.c2,.int .i32 p.c,.slice p.a3 p.n3 p.c3] 93);have RP1:=RP'.below k1 (by omega);have RA2:=(RA'.below k1 (by omega)).below k2 (by simp;omega);have q0:=RA2.frozen 0;have q2:=RA2.cell 0 rfl;have q3:=RA2.cell 1 rfl;have q1:=RA2.frozen 1;have p0:=RP1.cell 0 rfl;have p1:=RP1.cell 1 rfl;have p2:=RP1.cell 2 rfl;have p3:=RP1.cell 3 rfl;have p4:=RP1.cell 4 rfl;have p5:=RP1.cell 5 rfl;clear h0
    gi_wp2
    have hDW:D<W.heap.size:=(Array.getElem?_eq_some_iff.1 hK).1;have hK2:=((KeepsOthers.alloc W (.cells #[.int .i64 0] 3)).trans ((KeepsOthers.alloc _ (.cells #[.int .u8 p.k,.bool p.b,.slice p.a1 p.n1 p.c1,.slice p.a2 p.n2 p.c2,.int .i32 p.c,.slice p.a3 p.n3 p.c3] 93)).trans ((KeepsOthers.setCell _ ⟨w.heap.size+1,0,none⟩ (.slice (some ⟨W.heap.size,0,none⟩) 1 1)).trans (KeepsOthers.setCell _ ⟨w.heap.size+1,1,none⟩ (.slice (some ⟨W.heap.size+1,0,none⟩) 1 1))))).same D _ hK rfl;refine ⟨by simp,.inl ⟨_,_,rfl,run_takeDeferred hK2,?_⟩⟩;have hgp:=grownBy_putObj' ((((W.alloc (.cells #[.int .i64 0] 3)).alloc (.cells #[.int .u8 p.k,.bool p.b,.slice p.a1 p.n1 p.c1,.slice p.a2 p.n2 p.c2,.int .i32 p.c,.slice p.a3 p.n3 p.c3] 93)).setCell ⟨w.heap.size+1,0,none⟩ (.slice (some ⟨W.heap.size,0,none⟩) 1 1)).setCell ⟨w.heap.size+1,1,none⟩ (.slice (some ⟨W.heap.size+1,0,none⟩) 1 1)) D (.deferred none);have hX:=boxA_grown (RA2.set2 (.slice (some ⟨W.heap.size,0,none⟩) 1 1) (.slice (some ⟨W.heap.size+1,0,none⟩) 1 1)) hgp (fun e=>by cases e;omega);have x0:=hX.cell 0 rfl;have x1:=hX.cell 1 rfl;have N1:=boxA_grown (boxA_o (boxA_o ((boxA_new W #[.int .i64 0] 3).below k2 (by simp)) (p:=⟨w.heap.size+1,0,none⟩) (show w.heap.size+1≠W.heap.size by omega) (.slice (some ⟨W.heap.size,0,none⟩) 1 1)) (p:=⟨w.heap.size+1,1,none⟩) (show w.heap.size+1≠W.heap.size by omega) (.slice (some ⟨W.heap.size+1,0,none⟩) 1 1)) hgp (fun e=>by cases e;omega);have N2:=boxA_grown (boxA_o (boxA_o (boxA_new (W.alloc (.cells #[.int .i64 0] 3)) #[.int .u8 p.k,.bool p.b,.slice p.a1 p.n1 p.c1,.slice p.a2 p.n2 p.c2,.int .i32 p.c,.slice p.a3 p.n3 p.c3] 93) (p:=⟨w.heap.size+1,0,none⟩) (show w.heap.size+1≠(W.alloc (.cells #[.int .i64 0] 3)).heap.size by simp;omega) (.slice (some ⟨W.heap.size,0,none⟩) 1 1)) (p:=⟨w.heap.size+1,1,none⟩) (show w.heap.size+1≠(W.alloc (.cells #[.int .i64 0] 3)).heap.size by simp;omega) (.slice (some ⟨W.heap.size+1,0,none⟩) 1 1)) hgp (fun e=>by have h:=Option.some.inj e;simp at h;omega);rw [World.size_alloc] at N2;have kF:=((((gW.trans (k1.mono (by omega))).trans (k2.mono (by simp;omega))).setCell (p:=⟨w.heap.size+1,0,none⟩) (show w.heap.size≤w.heap.size+1 by omega) (.slice (some ⟨W.heap.size,0,none⟩) 1 1)).setCell (p:=⟨w.heap.size+1,1,none⟩) (show w.heap.size≤w.heap.size+1 by omega) (.slice (some ⟨W.heap.size+1,0,none⟩) 1 1)).grown hgp (by simp [World.setCell];omega) (fun k e=>by cases e;omega);have hts:ts.length=0:=by have:=HN.out;have:=H0.out;rw [List.length_take] at *;omega
    have e1:vecT tp ts=arrT [0] [tp]:=by unfold vecT vecK;rw [if_pos hts,← HN.out,H0.out];rfl
    refine ⟨.agg #[(.slice (some ⟨W.heap.size,0,none⟩) 1 1),(.slice (some ⟨W.heap.size+1,0,none⟩) 1 1)],by simp [results,Tryz.results76,go_sem,x0,x1],_,_,_,_,_,_,rfl,?_,kF⟩;rw [e1];refine ⟨rdN_one N1 (Or.inr ⟨by omega,N1.lt⟩) (by omega) (by omega),?_⟩;refine ⟨_,1,rfl,Nat.le_refl _,by omega,(fun h=>by cases h),Or.inr ⟨W.heap.size+1,0,rfl,Or.inr ⟨by omega,N2.lt⟩,fun j hj => ?_⟩⟩;have hj:j<1:=hj;obtain rfl:j=0:=by omega
    exact itc_of (HP.out.imp (fun _ h=>Or.inl h) (Agree.of kF HD.out)) N2
  have hd:decide (((n:Nat):Int)=0)=false:=decide_eq_false (by omega);have hd2:(((n:Nat):Int)==0)=false:=by rw [beq_eq_false_iff_ne];omega
  have k1:=below_alloc W (.cells #[.int .i64 (n:Int)] 3);have cO1:=(b1.below k1 (by omega)).cell 0 rfl;have RA1:=RA'.below k1 (by omega);have q0:=RA1.frozen 0;have q2:=RA1.cell 0 rfl;have q3:=RA1.cell 1 rfl;have q1:=RA1.frozen 1;have HR:Hid (RowOf 93 6 (ElI 0 ts) W0.heap.size W (.slice a n c) n):=b2;clear b2
  gi_wp2
  have hDW:D<W.heap.size:=(Array.getElem?_eq_some_iff.1 hK).1;have hK2:=((KeepsOthers.alloc W (.cells #[.int .i64 (n:Int)] 3)).trans ((KeepsOthers.setCell _ ⟨w.heap.size+1,0,none⟩ (.slice (some ⟨W.heap.size,0,none⟩) 1 1)).trans (KeepsOthers.setCell _ ⟨w.heap.size+1,1,none⟩ (.slice a n c)))).same D _ hK rfl;refine ⟨by simp,.inl ⟨_,_,rfl,run_takeDeferred hK2,?_⟩⟩;have hgp:=grownBy_putObj' (((W.alloc (.cells #[.int .i64 (n:Int)] 3)).setCell ⟨w.heap.size+1,0,none⟩ (.slice (some ⟨W.heap.size,0,none⟩) 1 1)).setCell ⟨w.heap.size+1,1,none⟩ (.slice a n c)) D (.deferred none);have hX:=boxA_grown (RA1.set2 (.slice (some ⟨W.heap.size,0,none⟩) 1 1) (.slice a n c)) hgp (fun e=>by cases e;omega);have x0:=hX.cell 0 rfl;have x1:=hX.cell 1 rfl;have N1:=boxA_grown (boxA_o (boxA_o (boxA_new W #[.int .i64 (n:Int)] 3) (p:=⟨w.heap.size+1,0,none⟩) (show w.heap.size+1≠W.heap.size by omega) (.slice (some ⟨W.heap.size,0,none⟩) 1 1)) (p:=⟨w.heap.size+1,1,none⟩) (show w.heap.size+1≠W.heap.size by omega) (.slice a n c)) hgp (fun e=>by cases e;omega);have kF:=(((gW.trans (k1.mono (by omega))).setCell (p:=⟨w.heap.size+1,0,none⟩) (show w.heap.size≤w.heap.size+1 by omega) (.slice (some ⟨W.heap.size,0,none⟩) 1 1)).setCell (p:=⟨w.heap.size+1,1,none⟩) (show w.heap.size≤w.heap.size+1 by omega) (.slice a n c)).grown hgp (by simp [World.setCell];omega) (fun k e=>by cases e;omega);have hRF:=rowI_grown (((HR.out.below (elI_ok 0 ts) k1 (Nat.le_refl _)).setCell (elI_ok 0 ts) (a:=⟨w.heap.size+1,0,none⟩) (by show w.heap.size+1<_;omega) (.slice (some ⟨W.heap.size,0,none⟩) 1 1)).setCell (elI_ok 0 ts) (a:=⟨w.heap.size+1,1,none⟩) (by show w.heap.size+1<_;omega) (.slice a n c)) hgp (fun k e=>by cases e;exact ⟨_,hK2,rfl⟩);have hts:¬ ts.length=0:=by have:=HN.out;rw [List.length_take] at this;omega
  have e1:vecT tp ts=arrT [(n:Int)] (ts.take 4096):=by unfold vecT vecK;rw [if_neg hts,← HN.out]
  refine ⟨.agg #[(.slice (some ⟨W.heap.size,0,none⟩) 1 1),(.slice a n c)],by simp [results,Tryz.results76,go_sem,x0,x1],_,_,_,_,_,_,rfl,?_,kF⟩;rw [e1];refine ⟨rdN_one N1 (Or.inr ⟨by omega,N1.lt⟩) (by omega) (by omega),?_⟩;show RowB _ (ts.take 4096).length (.slice a n c) _;rw [← HN.out];refine RowB.imp (rowB_I (D:=Fr w.heap.size _) hRF (fun q h1 h2=>⟨by omega,h2⟩)) (fun _ h=>Or.inr h) (fun g' o j hg' hj hc => ?_);have ej:(arrT [(n:Int)] (ts.take 4096)).kids.getD j tr0=ts.getD j tr0:=by
   show (ts.take 4096).getD j tr0=_;rw [List.getD_eq_getElem?_getD,List.getElem?_take_of_lt (by omega),← List.getD_eq_getElem?_getD]
  rw [ej];exact hc.imp hg' (fun _ h=>Or.inr h) (fun _ _=>rfl) (fun _ _ _ h=>h.elim)
end
section
open Go.RowKit
theorem arrInt_any (w:World) (q:Int) (hq0:-9223372036854775808≤q) (hq1:q<9223372036854775808):Calls Tryz.prog 28 #[.int .i64 q] w fun e w'=>∃ b ns ds,Hid (WholeIs q b ns ds)∧ScalarAns w b ns ds e w':=by
 have R:=boxA_new w #[.slice none 0 0,.slice none 0 0] 51;have g:=below_alloc w (.cells #[.slice none 0 0,.slice none 0 0] 51);have s0:w.heap.size<(w.alloc (.cells #[.slice none 0 0,.slice none 0 0] 51)).heap.size:=by simp
 go_enter Tryz.func28,Tryz.ntmps28
 go_wp2_with fail
 generalize hA:w.alloc (.cells #[.slice none 0 0,.slice none 0 0] 51)=v at *;clear hA;refine (ofInt_any q hq0 hq1 _).mono ?_;rintro e w1 ⟨k1,bo,on,od,o1,o2,o3,o4,HO,rfl,oo,oe⟩
 go_wp2_with fail
 refine number_any.mono ?_;rintro e w2 ⟨rfl,k2⟩;have s1:=k1.size;have t2:Below v.heap.size v w2:=k1.trans (k2.mono s1);have p1:=oo.below k2 (Nat.le_refl _);have p2:=oe.below k2 (Nat.le_refl _)
 go_wp2_with fail
 refine scalar_any.mono ?_;rintro e w3 ⟨k,rfl,hk,hB,k3⟩;have s2:=t2.size;have t3:Below v.heap.size v w3:=t2.trans (k3.mono s2);have hN:NumAt v.heap.size w3 k bo on od:=⟨by omega,_,_,_,_,hB,p1.below k3 (Nat.le_refl _),p2.below k3 (Nat.le_refl _)⟩;have HN:Hid (NumAt v.heap.size w3 k bo on od):=hN;clear hN;have R3:=R.below t3 s0;have q0:=R3.cell 0 rfl;have q1:=R3.cell 1 rfl;have f0:=R3.frozen 0;have f1:=R3.frozen 1;go_wp2
 have R4:=R3.set2 (.slice none 0 0) (.slice (some ⟨k,0,none⟩) 1 1);have r0:=R4.cell 0 rfl;have r1:=R4.cell 1 rfl;refine bodyPost_ret (v:=.agg #[.slice none 0 0,.slice (some ⟨k,0,none⟩) 1 1]) (by simp [results,Tryz.results28,go_sem,r0,r1]) rfl ?_;exact ⟨bo,on,od,HO,k,rfl,(HN.out.set2 s0 _ _).mono (by omega),Below.set2 (g.trans (t3.mono (by omega))) (Nat.le_refl _) _ _⟩
theorem numAt_arv {base k:Nat} {w:World} {b:Bool} {ns ds:List Int} (h:NumAt base w k b ns ds):ArV 1 (Fr base w.heap.size) w (.slice none 0 0) (.slice (some ⟨k,0,none⟩) 1 1) (arrT [] [numT b ns ds]):=by
 have hlt:=h.lt;obtain ⟨hk,x1,y1,x2,y2,hB,o1,o2⟩:=h;refine ⟨⟨(fun x h=>by cases h),none,0,rfl,Nat.le_refl _,by omega,fun _=>rfl,Or.inl rfl⟩,some ⟨k,0,none⟩,1,rfl,Nat.le_refl _,by omega,(fun h=>by cases h),Or.inr ⟨k,0,rfl,⟨hk,hlt⟩,fun j hj => ?_⟩⟩;have hj:j<1:=hj;obtain rfl:j=0:=by omega
 obtain ⟨e0,e1,e2,e3,e4,e5⟩:=hB.num;exact ⟨x1,y1,x2,y2,none,0,⟨e0,e1,e2,e3,e4,e5⟩,RdL.of_own o1,RdL.of_own o2,none,0,rfl,Nat.le_refl _,by omega,fun _=>rfl,Or.inl rfl⟩
end
section
open Go.RowKit Go.Shelf
attribute [local go_sem] Oper.semAt_some
def limbs2 (n:Int):List Int:=if n=0 then [] else if n<4294967296 then [n] else [n % 4294967296,n/4294967296]
theorem limbs2_ok {n:Int} (h0:0≤n) (h1:n≤9223372036854775808):can (limbs2 n)∧val (limbs2 n)=n:=by
 unfold limbs2;by_cases hz:n=0
 · rw [if_pos hz];exact ⟨⟨lim_nil,Or.inl rfl⟩,by rw [hz];rfl⟩
 rw [if_neg hz];by_cases hs:n<4294967296
 · rw [if_pos hs]
   refine ⟨⟨?_,Or.inr (by simpa using hz)⟩,by simp [val]⟩;intro x hx;simp at hx;subst hx;omega
 · rw [if_neg hs]
   refine ⟨⟨?_,Or.inr ?_⟩,?_⟩
   · intro x hx
     simp at hx;rcases hx with rfl | rfl <;> omega
   · simp;omega
   · simp [val];omega
/-- A whole number as an item. -/
def wholeT (q:Int):Tr:=numT (decide (q<0)) (limbs2 (if q<0 then -q else q)) [1]
theorem wholeIs_eq {q:Int} {b:Bool} {ns ds:List Int} (h0:-9223372036854775808≤q) (h1:q<9223372036854775808) (h:WholeIs q b ns ds):numT b ns ds=wholeT q:=by
 obtain ⟨rfl,hc,hv,_,rfl⟩:=h;unfold wholeT;have hl:=limbs2_ok (n:=if q<0 then -q else q) (by split <;> omega) (by split <;> omega);rw [can_inj hc hl.1 (by rw [hv,hl.2])]
theorem own_notRow {base:Nat} {w:World} {v:Value} {xs:List Int} (h:Own base w v xs):RdL (fun g=>base≤g∧NotRow w g) w v xs:=by
 obtain ⟨h0,hl,h | ⟨g,cap,cur,rfl,hg,hh,h1,h2,h3,h4⟩⟩:=h
 · obtain ⟨rfl,hz⟩:=h
   have:xs=[]:=List.eq_nil_of_length_eq_zero hz;subst this;exact ⟨h0,none,0,rfl,Nat.le_refl _,by omega,fun _=>rfl,Or.inl rfl⟩
 · refine ⟨h0,_,cap,rfl,h1,by unfold maxLen at h2;omega,(fun h=>by cases h),Or.inr ⟨g,0,rfl,⟨hg,_,_,_,hh,by decide⟩,fun j hj => ?_⟩⟩
   have e:cur.toList[j]? = (xs.map (Value.int .u32))[j]?:=by rw [← h4,List.getElem?_take];simp;omega
   rw [getD_map_u32 xs j hj] at e;simp only [World.cell?,hh,Nat.zero_add];simpa using e
theorem itemAt_num {base:Nat} {w:World} {b:Bool} {ns ds:List Int} {a1 a2:Option Addr} {c1 c2:Nat} (h1:Own base w (.slice a1 ns.length c1) ns) (h2:Own base w (.slice a2 ds.length c2) ds):ItemAt base w ⟨1,b,a1,ns.length,c1,a2,ds.length,c2,0,none,0,0⟩ (numT b ns ds):=
 ⟨rfl,rfl,rfl,rfl,rfl,rfl,own_notRow h1,own_notRow h2,⟨none,0,rfl,Nat.le_refl _,by omega,fun _=>rfl,Or.inl rfl⟩⟩
theorem grown_of {w w':World} (k:Below w.heap.size w w') (row:Option Nat):w.grownBy w' row:=⟨k.os,k.tape,k.output,k.size,fun g hg _=>k.block g hg⟩
theorem wholes_pays {w w0:World} {D:Nat→Prop} {a:Option Addr} {c:Nat} {l:List Int} {Bn n₀:Nat} (n:Nat) (hn:2≤n) (hb0:Below n₀ w0 w) (hs0:n₀≤w0.heap.size) (hn₀:Bn<n₀) (hBn:BoxA w0 Bn 48 #[.slice a l.length c]) (hR:RdN D w0 (.slice a l.length c) l) (hD:∀ g,D g→g<n₀) :
    PaysX Fence.wide n Tryz.prog 138 #[.pointer (some ⟨Bn,0,none⟩)] IV.encs (KeepW n₀) (fun pre x W=>pre.length<(l.map wholeT).length∧ItemAt w.heap.size W x ((l.map wholeT).getD pre.length tr0)) (fun xs W=>xs.length=(l.map wholeT).length) (fun _=>True) w:=by
 intro L J Jx W hW hJ hJx hY hJ0;have hsb:=hb0.size;have hW0:Below n₀ w0 W:=hb0.trans (hW.mono (by omega));have hBW:=hBn.below hW0 hn₀;have hsW:=hW.size;have c0:=hBW.cell 0 rfl;have bd:=hR.bounds;have HR:Hid (RdN D w0 (.slice a l.length c) l):=hR;have HD:Hid (∀ g,D g→g<n₀):=hD;have hin:=hR.1;clear hR hD;refine callsIn_of_wp Tryz.func138 rfl trivial ?_ rfl;simp only [Tryz.ntmps138,List.size_toArray,List.length_cons,List.length_nil,Nat.reduceAdd,Nat.reduceSub,Array.replicate_succ,Array.replicate_zero,List.push_toArray,List.append_toArray,List.nil_append,List.cons_append]
 gi_wp2
 clear c0
 gi_loopw [7] (fun iv wr=>∃ (i:Nat) (pre:List IV),iv=.int .i64 i∧i≤l.length∧pre.length=i∧J pre wr∧Below n₀ w0 wr∧w.heap.size≤wr.heap.size) (fun iv _=>l.length - (intOf iv).toNat)
 case atStart=>exact ⟨0,[],rfl,Nat.zero_le _,rfl,hJ0,hW0,hsW⟩
 case round=>
  obtain ⟨i,pre,rfl,hil,hpl,hJs,hbr,hsr⟩:=hrel;have HPL:Hid (pre.length=i):=hpl;clear hpl;by_cases hlt:i<l.length
  · obtain ⟨g1,o1,rfl,hg1,hc1⟩:=HR.out.ptr (by omega)
    have E:=(hbr.cell (p:=⟨g1,o1+i,none⟩) (HD.out g1 hg1)).trans (hc1 i hlt);obtain ⟨q,hq⟩:∃ q,l.getD i 0=q:=⟨_,rfl⟩;rw [hq] at E;have HQ:Hid ((l.map wholeT).getD i tr0=wholeT q):=by
     unfold Hid;rw [List.getD_eq_getElem?_getD,List.getElem?_map,← hq,List.getD_eq_getElem?_getD,List.getElem?_eq_getElem hlt];rfl
    have hqi:-9223372036854775808≤q∧q≤9223372036854775807:=hin q (by rw [← hq,List.getD_eq_getElem?_getD,List.getElem?_eq_getElem hlt];exact List.getElem_mem hlt);obtain ⟨hq0,hq1⟩:=hqi;clear hc1 hq
    gi_wp2_with fail
    refine ⟨trivial,fun _=>by omega,?_⟩;refine (callsIn_wide.2 (ofInt_any q hq0 (by omega) _)).mono ?_;rintro e w1 ⟨k1,bo,on,od,z1,u1,z2,u2,HO,rfl,oo,oe⟩;have s1:=k1.size
    gi_wp2_with fail
    refine ⟨trivial,fun _=>by omega,?_⟩;refine (callsIn_wide.2 (number_any)).mono ?_;rintro e w2 ⟨rfl,k2⟩;have s2:=k2.size;have k12:Below wr.heap.size wr w2:=k1.trans (k2.mono s1);have hit:ItemAt w.heap.size w2 ⟨1,bo,z1,on.length,u1,z2,od.length,u2,0,none,0,0⟩ (wholeT q):=by
     rw [← wholeIs_eq hq0 (by omega) HO.out];exact itemAt_num ((oo.below k2 (Nat.le_refl _)).mono (by omega)) ((oe.below k2 (Nat.le_refl _)).mono (by omega))
    have hJ3:=hJ pre wr _ none hJs (grown_of k12 none) (fun r e=>by cases e);have sb:=hbr.size;have hb3:Below n₀ w0 w2:=hbr.trans (k12.mono (by omega));obtain ⟨fn,tmps,assign,body,hy,hRd⟩:=hY pre ⟨1,bo,z1,on.length,u1,z2,od.length,u2,0,none,0,0⟩ w2 hJ3 ⟨by rw [HPL.out,List.length_map];exact hlt,by rw [HPL.out,HQ.out];exact hit⟩;dsimp only [IV.encs] at hy;clear hit oo oe k1 k2
    gi_wp2
    refine ⟨fun _=>by omega,hRd.mono ?_⟩;rintro e W4 (⟨rfl,hJ4,hk4⟩ | ⟨rfl,hJ4⟩)
    · have hb4:=hb3.trans hk4.below
      have s4:=hk4.below.size;have s5:w2.heap.size≤W4.heap.size:=hk4.others.size
      gi_wp2
      go_roundw
      case rel=>exact ⟨i+1,_,by go_num,by omega,by rw [List.length_append,HPL.out];rfl,hJ4,hb4,by omega⟩
      case measure=>simp [intOf];omega
    · gi_wp2
      refine bodyPost_ret (results_none rfl _ _ _) rfl ?_;exact ⟨⟨_,rfl⟩,Or.inr ⟨_,trivial,hJ4⟩⟩
  · have HE:Hid (pre.length=(l.map wholeT).length):=by unfold Hid;rw [List.length_map,HPL.out];omega
    have hd:i=l.length:=by omega
    have hd2:(((i:Nat):Int)<((l.length:Nat):Int))=False:=by simp;omega
    clear hd
    gi_wp2
    go_end0
    exact ⟨⟨_,rfl⟩,Or.inl ⟨pre,HE.out,hJs⟩⟩
theorem wholes_any {w:World} {a:Option Addr} {n c:Nat}:Calls Tryz.prog 78 #[.slice a n c] w fun e w'=>e=.returned (.func (.func 138) #[] #[.pointer (some ⟨w.heap.size,0,none⟩)])∧w'=w.alloc (.cells #[.slice a n c] 48):=by
 go_enter Tryz.func78,Tryz.ntmps78;go_wp2
 go_ret
 exact ⟨rfl,rfl⟩
theorem ints_any {w:World} {D:Nat→Prop} {a:Option Addr} {c:Nat} {l:List Int} (h:RdN D w (.slice a l.length c) l) (hD:∀ g,D g→g<w.heap.size) :
    Calls Tryz.prog 27 #[.slice a l.length c] w fun e w'=>∃ z1 m1 u1 z2 m2 u2,e=.returned (.agg #[.slice z1 m1 u1,.slice z2 m2 u2])∧ArV 1 (Fr w.heap.size w'.heap.size) w' (.slice z1 m1 u1) (.slice z2 m2 u2) (vecT (wholeT 0) (l.map wholeT))∧Below w.heap.size w w':=by
 have R:=boxA_new w #[.slice none 0 0,.slice none 0 0] 51;have g:=below_alloc w (.cells #[.slice none 0 0,.slice none 0 0] 51);have s0:w.heap.size<(w.alloc (.cells #[.slice none 0 0,.slice none 0 0] 51)).heap.size:=by simp
 have H:Hid (RdN D w (.slice a l.length c) l):=h;have HD:Hid (∀ g,D g→g<w.heap.size):=hD;clear h hD;go_enter Tryz.func27,Tryz.ntmps27
 go_wp2_with fail
 generalize hA:w.alloc (.cells #[.slice none 0 0,.slice none 0 0] 51)=v at *;clear hA;refine (ofInt_any 0 (by omega) (by omega) _).mono ?_;rintro e w1 ⟨k1,bo,on,od,o1,o2,o3,o4,HO,rfl,oo,oe⟩
 go_wp2_with fail
 refine number_any.mono ?_;rintro e w2 ⟨rfl,k2⟩;have s1:=k1.size;have s2:=k2.size;have t2:Below v.heap.size v w2:=k1.trans (k2.mono s1);have p1:=oo.below k2 (Nat.le_refl _);have p2:=oe.below k2 (Nat.le_refl _);clear oo oe k1
 go_wp2_with fail
 refine wholes_any.mono ?_;rintro e w3 ⟨rfl,hw3⟩;have B3:=boxA_new w2 #[.slice a l.length c] 48;have k3:=below_alloc w2 (.cells #[.slice a l.length c] 48);rw [← hw3] at B3 k3;clear hw3;have s3:=B3.lt;have t3:Below v.heap.size v w3:=t2.trans (k3.mono (by omega));have hT:numT bo on od=wholeT 0:=wholeIs_eq (by omega) (by omega) HO.out;have hit:IsIt 0 (Fr v.heap.size w2.heap.size) w2 ⟨1,bo,o1,on.length,o2,o3,od.length,o4,0,none,0,0⟩ (wholeT 0):=by
  rw [← hT];exact ⟨rfl,rfl,rfl,rfl,rfl,rfl,RdL.of_own p1,RdL.of_own p2,⟨none,0,rfl,Nat.le_refl _,by omega,fun _=>rfl,Or.inl rfl⟩⟩
 have hit3:IsIt 0 (Fr v.heap.size w2.heap.size) w3 ⟨1,bo,o1,on.length,o2,o3,od.length,o4,0,none,0,0⟩ (wholeT 0):=hit.agree (fun q hq=>k3.block q hq.2);have HR:Hid (RdN D w3 (.slice a l.length c) l):=H.out.imp (fun _ h=>h) (Agree.of (g.trans (t3.mono (by omega))) HD.out);have V:=vector_any (w:=w3) (gf:=138) (lb:=#[.pointer (some ⟨w2.heap.size,0,none⟩)]) (p:=⟨1,bo,o1,on.length,o2,o3,od.length,o4,0,none,0,0⟩) (tp:=wholeT 0) (Dp:=Fr v.heap.size w2.heap.size) (ts:=l.map wholeT)
  (Gd:=fun W0 pre x W=>pre.length<(l.map wholeT).length∧ItemAt W0.heap.size W x ((l.map wholeT).getD pre.length tr0)) (Sx:=fun _ xs _=>xs.length=(l.map wholeT).length) (Sp:=fun _ _=>True)
  (enters_of Tryz.func138 (by kernel_rfl) rfl)
  (fun W0 hb=>wholes_pays (w:=W0) (w0:=w3) (D:=D) 5 (by omega) hb (Nat.le_refl _) s3 B3 HR.out (fun q hq=>by have:=HD.out q hq;have:=t3.size;omega))
  (fun _ _ _ _ _ h _ _=>h) (fun _ _ _ h=>h) (fun _ _ _ _ h=>h) hit3 (fun q hq=>by have:=hq.2;omega)
 dsimp only at V;clear hit hit3 hT HO p1 p2
 go_wp2_with fail
 refine V.mono ?_;rintro e w4 ⟨z1,m1,u1,z2,m2,u2,rfl,hv,k4⟩;have HV:Hid (ArV 1 (fun g=>Fr v.heap.size w2.heap.size g∨Fr w3.heap.size w4.heap.size g) w4 (.slice z1 m1 u1) (.slice z2 m2 u2) (vecT (wholeT 0) (l.map wholeT))):=hv;have s4:=k4.size;have t4:Below v.heap.size v w4:=t3.trans (k4.mono t3.size);clear hv V;have R3:=R.below t4 s0;have q0:=R3.cell 0 rfl;have q1:=R3.cell 1 rfl;have f0:=R3.frozen 0;have f1:=R3.frozen 1;go_wp2
 have R4:=R3.set2 (.slice z1 m1 u1) (.slice z2 m2 u2);have r0:=R4.cell 0 rfl;have r1:=R4.cell 1 rfl;refine bodyPost_ret (v:=.agg #[.slice z1 m1 u1,.slice z2 m2 u2]) (by simp [results,Tryz.results27,go_sem,r0,r1]) rfl ?_;refine ⟨z1,m1,u1,z2,m2,u2,rfl,?_,Below.set2 (g.trans (t4.mono (by omega))) (by omega) _ _⟩;have st:=t3.size;refine ArV.imp ?_ ?_ 1 1 _ _ _ (Nat.le_refl _) HV.out
 · rintro q (⟨h1,h2⟩ | ⟨h1,h2⟩)
   · exact ⟨by omega,by rw [set1_size,set1_size];omega⟩
   · exact ⟨by omega,by rw [set1_size,set1_size];omega⟩
 · rintro q (⟨h1,h2⟩ | ⟨h1,h2⟩)
   · rw [set1_other (by show ¬ w.heap.size=q;omega),set1_other (by show ¬ w.heap.size=q;omega)]
   · rw [set1_other (by show ¬ w.heap.size=q;omega),set1_other (by show ¬ w.heap.size=q;omega)]
end
section
open Go.RowKit Go.Shelf
attribute [local go_sem] Oper.semAt_some
end
section
open Go.RowKit Go.Shelf
attribute [local go_sem] Oper.semAt_some
end
section
open Go.RowKit Go.Shelf
attribute [local go_sem] Oper.semAt_some
end
section
open Go.RowKit
section
variable {w:World} {f:Nat} {D:Nat→Prop} {a2:Option Addr} {c2 N Bn Bs:Nat} {l l':List Tr}
end
section
variable {w:World} {f:Nat} {D:Nat→Prop} {x1 a2:Option Addr} {y1 c2 N:Nat} {sh:List Int} {l:List Tr}
end
section
variable {D:Nat→Prop} {f:Nat} {W:World} {x1:Option Addr} {n1 y1:Nat} {x2:Option Addr} {n2 y2:Nat} {t:Tr}
variable {a1 a2 a3:Option Addr} {c1 c2 c3:Nat} {P:Value→Value→Tr→Prop}
end
theorem limbs2_len (n:Int):(limbs2 n).length≤2:=by
 unfold limbs2
 split
 · simp
 · split <;> simp
theorem wholeT_is {q:Int} (h0:-9223372036854775808≤q) (h1:q<9223372036854775808):WholeIs q (wholeT q).b (wholeT q).ns (wholeT q).ds:=by
 have hl:=limbs2_ok (n:=if q<0 then -q else q) (by split <;> omega) (by split <;> omega);exact ⟨rfl,hl.1,hl.2,limbs2_len _,rfl⟩
/-- A simple item that is right. -/
theorem whole_meas {q:Int} (M:Tr→Option (Int×Int)) (h0:-9223372036854775808≤q) (h1:q<9223372036854775808):measI M (wholeT q)=some (0,0):=measI_num rfl ⟨(wholeT_is h0 h1).right,rfl,rfl⟩
theorem measL_zero {I:Tr→Option (Int×Int)}:∀ (l:List Tr) (c:Int),(∀ t∈l,I t=some (0,0))→c≤16384→measL I l (1,c)=some (1,c)
 | [],c,_,_=>rfl
 | t :: r,c,h,hc=>by
  rw [measL,h t (by simp)];simp only [Int.add_zero];rw [if_neg (by omega)];exact measL_zero r c (fun x hx=>h x (by simp [hx])) hc
/-- An array with axes, of simple items. -/
theorem meas_simple {L:Nat} {t:Tr} (h1:(sizeF t.ns).2=0) (h2:(t.kids.length:Int)=max (sizeF t.ns).1 1) (h3:0<t.ns.length) (h4:∀ x∈t.kids,measI (measF L) x=some (0,0)):measF (L+1) t=some (1,(t.kids.length:Int)):=by
 have hin:=sizeF_in t.ns;rw [measF_succ ⟨h1,h2⟩,measL_zero _ _ h4 (by omega)];have hs:simpB t=false:=by
  have hd:decide (t.ns.length=0)=false:=decide_eq_false (by omega);unfold simpB;rw [hd];rfl
 unfold finM;simp [hs]
/-- A scalar of a simple item. -/
theorem meas_scalar {L:Nat} {x:Tr} (hk:x.k=1∨x.k=2) (h:measI (measF L) x=some (0,0)):measF (L+1) (arrT [] [x])=some (0,1):=by
 have e0:sizeF ([]:List Int)=(1,0):=by decide
 have e:sizeF (arrT [] [x]).ns=(1,0):=e0;rw [measF_succ ⟨by rw [e],by rw [e];rfl⟩];rw [measL_zero _ _ (by intro t ht;simp [arrT,Tr.kids] at ht;subst ht;exact h) (by show ((1:Nat):Int)≤16384;omega)];unfold finM simpB;have e2:((arrT [] [x]).kids.getD 0 tr0)=x:=rfl;rw [e2];rcases hk with hk | hk <;> simp [hk,arrT,Tr.ns,Tr.kids]
theorem size_one {n:Int} (h0:0≤n) (h1:n≤4096):sizeF [n]=(n,0):=by
 have e1:loF [n]=min 1 n:=rfl;have e2:hiF [n]=max 1 n:=rfl;have e3:prodF [n] 1=if 4096<1*n then none else some (1*n):=rfl
 unfold sizeF;rw [if_neg (by simp),e1,e2,e3,if_neg (by omega),if_neg (by omega)];by_cases hz:n=0
 · rw [if_pos (by omega),hz]
 · rw [if_neg (by omega),if_neg (by omega)]
   simp
/-- A vector of simple items. -/
theorem vec_meas {L:Nat} {tp:Tr} {ts:List Tr} (hp:measI (measF L) tp=some (0,0)) (h:∀ t∈ts,measI (measF L) t=some (0,0)):measF (L+1) (vecT tp ts)=some (1,((vecT tp ts).kids.length:Int)):=by
 have hl:(ts.take 4096).length≤4096:=by rw [List.length_take];omega
 have e:sizeF (vecT tp ts).ns=((((ts.take 4096).length:Nat):Int),0):=size_one (by omega) (by omega);refine meas_simple (by rw [e]) ?_ (by simp [vecT,arrT,Tr.ns]) ?_
 · rw [e]
   show ((vecK tp ts).length:Int)=_;unfold vecK
   split
   · rename_i hz
     rw [List.length_take,hz];rfl
   · rename_i hz
     have:1≤(ts.take 4096).length:=by rw [List.length_take];omega
     simp only [];omega
 · intro x hx
   have hx:x∈vecK tp ts:=hx;unfold vecK at hx
   split at hx
   · simp at hx;subst hx;exact hp
   · exact h x (List.mem_of_mem_take hx)
section
variable {D:Nat→Prop} {f:Nat} {W:World} {x1:Option Addr} {n1 y1:Nat} {x2:Option Addr} {n2 y2:Nat} {t:Tr}
end
end
end Go.Proofs.YtilbfkabfgnhpaaGreat
