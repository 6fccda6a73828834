/- array.vector over an iterator of items without boxes. -/
import Derived.Test.YtheaeggecpfcbaaGreatK11
import Derived.Test.YtheaeggecpfcbaaGreatK7
import Derived.Test.YtheaeggecpfcbaaGreatK8
import Derived.Stop.RegionWithIn
import Derived.Test.YtheaeggecpfcbaaGreatKA
set_option maxRecDepth 100000
set_option maxHeartbeats 16000000
set_option linter.unusedVariables false
set_option linter.unusedSimpArgs false
namespace Go.Proofs.YtheaeggecpfcbaaGreat
section
open Go.RowKit Go.Shelf
attribute [local go_sem] Oper.semAt_some
theorem wpListIn_append_at {F:Fence} {n:Nat} {P:Program} (w:World) {ops:Array Oper} {rest:List Oper} {o:Oper} {a:Act} {Q:Exit→Act→World→Prop}
    (hg:o.guard=none) (s x:Operand) (t:TypeId) (hop:o.op=Op.call { callee:=Callee.builtin Builtin.append,args:=#[s,x],argTypes:=#[t,t] })
    (base:Nat) (e:TypeId) (i:TypeInfo) (z:Value) (size bytes:Nat) (h1:P.underlying t=some (.slice e)) (h2:P.info? e=some i) (h3:i.zero=some z) (h4:i.size=size) (h5:i.bytes=bytes) (h6:z.cells.size=size) (h7:0<size)
    (v:Value) (k:Nat) (xs:List Value) (hs:a.eval s=v) (hown:w.ownsRow base e size v k xs) (ad:Addr) (m c:Nat) (news:List Value) (hx:a.eval x=.slice (some ad) m c) (hn:news.length=m*size)
    (hc:∀ j u,news[j]? = some u→w.cell? (ad.add j)=some u) (h1c:∀ u∈news,u.oneCell'=true) (b1:k+m≤maxLen) (b2:(k+m)*bytes≤140737488355328) (b3:base≤w.heap.size)
    (hK:∀ v' w',w'.ownsRow base e size v' (k+m) (xs++news)→w.grownBy w' v.ownBlock→(v'.ownBlock=v.ownBlock∨v'.ownBlock=some w.heap.size)→wpListIn F n P ops Q rest (a.put o.dst v') w') :
    wpListIn F n P ops Q (o :: rest) a w:=by
 refine wpListIn_plain hg fun K hK' => ?_;obtain ⟨v',w',hrun,r1,r2,r3,r4⟩:=run_append_own_at (P:=P) w base t o.type e i z size bytes h1 h2 h3 h4 h5 h6 h7 v k xs hown ad m c news hn hc h1c b1 b2 b3;unfold Oper.wpIn;refine ⟨?_,?_⟩
 · simp [Oper.about,hop,resolve,Target.leads,Sem.run_pure]
 · rw [Oper.semAt_plain F _ _ (by rw [hop];intro c hc';cases hc')]
   simp [execOp,hop,resolve,invoke,builtin,hs,hx,hrun,Result.andThen];exact hK' _ _ (hK v' w' r1 r2 r4)
/-- A block of cells that holds no items. -/
def NotRow (W:World) (g:Nat):Prop:=∃ cs ty fz,W.heap[g]? = some (.cells cs ty fz)∧ty≠68
def ItemAt (Z:Nat) (W:World) (x:IV) (t:Tr):Prop:=IsIt 0 (fun g=>Z≤g∧NotRow W g) W x t
theorem ItemAt.grown {Z:Nat} {A B:World} {x:IV} {t:Tr} {row:Option Nat} (h:ItemAt Z A x t) (hg:A.grownBy B row) (hrow:∀ k,row=some k→∃ o:Obj,A.heap[k]? = some o∧o.isCells=false):ItemAt Z B x t:=by
 have hk:∀ g,NotRow A g→B.heap[g]? = A.heap[g]?:=by
  rintro g ⟨cs,ty,fz,e,_⟩;refine hg.block g (lt_of_block e) (fun hr => ?_);obtain ⟨o,ho,hc⟩:=hrow g hr.symm;rw [e] at ho
  cases ho
  cases hc
 refine IsIt.imp h ?_ (fun g hg'=>hk g hg'.2);rintro g ⟨h1,h2⟩;refine ⟨h1,?_⟩;obtain ⟨cs,ty,fz,e,hne⟩:=h2;exact ⟨cs,ty,fz,by rw [hk g ⟨cs,ty,fz,e,hne⟩];exact e,hne⟩
theorem notRow_ne {W:World} {Z n g:Nat} {v:Value} {xs:List Value} (h:W.ownsRow Z 68 6 v n xs) (hg:NotRow W g):v.ownBlock≠some g:=by
 intro hv;obtain ⟨cs,ty,fz,e,hne⟩:=hg;obtain ⟨_,h | ⟨g',cap,cur,rfl,_,hh,_⟩⟩:=h
 · rw [h.1] at hv;cases hv
 · cases hv
   rw [hh] at e
   cases e
   exact hne rfl
/-- A row, where what is appended points to blocks that are there. -/
theorem RowOf.push2 {e size n Z:Nat} {El:Elem} {W w':World} {O:Obj} {v v':Value} {xs news:List Value} (hE:ElemOK size El) (ho:W.ownsRow Z e size v n xs) (he:∀ j,j<n→El (FrR Z W v) W (cellsOf xs size j) j)
    (hZ:Z≤W.heap.size) (hl:news.length=size) (hn:El (FrR Z W v) W (fun k=>news[k]?) n)
    (hr:w'.ownsRow Z e size v' (n+1) (xs++news)) (hg:(W.alloc O).grownBy w' v.ownBlock) (hv:v'.ownBlock=v.ownBlock∨v'.ownBlock=some (W.alloc O).heap.size):RowOf e size El Z w' v' (n+1):=by
 have s2:=hg.size;rw [World.size_alloc] at s2;have hx:xs.length=n*size:=ho.1;have hD:∀ g,FrR Z W v g→FrR Z w' v' g:=by
  rintro g ⟨g1,g2,g3⟩;refine ⟨g1,by omega,?_⟩;rcases hv with hv | hv
  · rw [hv];exact g3
  · rw [hv,World.size_alloc];intro h;have:=Option.some.inj h;omega
 have hA:Agree (FrR Z W v) W w':=by
  rintro g ⟨g1,g2,g3⟩;rw [hg.block g (by rw [World.size_alloc];omega) (fun h=>g3 h.symm),(below_alloc W O).block g (by omega)]
 refine ⟨_,hr,fun j hj => ?_⟩;by_cases hjn:j<n
 · refine hE _ _ _ _ _ _ _ hD hA ?_ (he j hjn)
   intro q hq;unfold cellsOf;have:j*size+q<xs.length:=by
    rw [hx];have:(j+1)*size≤n*size:=Nat.mul_le_mul_right _ (by omega);rw [Nat.add_mul] at this;omega
   rw [List.getElem?_append_left this]
 · obtain rfl:j=n:=by omega
   refine hE _ _ _ _ _ _ _ hD hA ?_ hn;intro q hq;unfold cellsOf;rw [List.getElem?_append_right (by omega),hx]
   congr 1
   omega
/-- A vector's tree. -/
def vecK (tp:Tr) (ts:List Tr):List Tr:=if ts.length=0 then [tp] else ts.take 4096
def vecT (tp:Tr) (ts:List Tr):Tr:=arrT [(((ts.take 4096).length:Nat):Int)] (vecK tp ts)
theorem rdN_one {W:World} {D:Nat→Prop} {g:Nat} {n:Int} (h:BoxA W g 3 #[.int .i64 n]) (hD:D g) (h0:0≤n) (h1:n≤4096):RdN D W (.slice (some ⟨g,0,none⟩) 1 1) [n]:=by
 refine ⟨fun x hx => ?_,_,1,rfl,Nat.le_refl _,by omega,(fun h=>by cases h),Or.inr ⟨g,0,rfl,hD,fun j hj => ?_⟩⟩
 · simp at hx;subst hx;omega
 · have hj:j<1:=hj
   obtain rfl:j=0:=by omega
   exact h.cell 0 rfl
theorem itc_of {f:Nat} {D:Nat→Prop} {W:World} {g:Nat} {x:IV} {t:Tr} {ty:Nat} (h:IsIt f D W x t) (hB:BoxA W g ty #[.int .u8 x.k,.bool x.b,.slice x.a1 x.n1 x.c1,.slice x.a2 x.n2 x.c2,.int .i32 x.c,.slice x.a3 x.n3 x.c3]):ItC (ArV f D W) D W g (0+0*6) t:=by
 refine ⟨x.a1,x.c1,x.a2,x.c2,x.a3,x.c3,⟨?_,?_,?_,?_,?_,?_⟩,h.v⟩
 · rw [← h.k];exact hB.cell 0 rfl
 · rw [← h.b];exact hB.cell 1 rfl
 · rw [← h.n1];exact hB.cell 2 rfl
 · rw [← h.n2];exact hB.cell 3 rfl
 · rw [← h.c];exact hB.cell 4 rfl
 · rw [← h.n3];exact hB.cell 5 rfl
theorem vector_any {w:World} {gf:Nat} {lb:Array Value} {p:IV} {tp:Tr} {Dp:Nat→Prop} {Gd:World→List IV→IV→World→Prop} {Sx:World→List IV→World→Prop} {Sp:World→List IV→Prop} {ts:List Tr}
    (eg:∀ args w,(callFunc gf args).run Tryz.prog w=.ok (.enter gf args) w) (hp:∀ W0,Below w.heap.size w W0→PaysX Fence.wide 5 Tryz.prog gf lb IV.encs (KeepW w.heap.size) (Gd W0) (Sx W0) (Sp W0) W0)
    (hS:∀ W0,OwnFrom W0.heap.size (Sx W0)) (hSl:∀ W0 xs W,Sx W0 xs W→xs.length=ts.length) (hGd:∀ W0 pre x W,Gd W0 pre x W→pre.length<ts.length∧ItemAt W0.heap.size W x (ts.getD pre.length tr0))
    (hpr:IsIt 0 Dp w p tp) (hDp:∀ g,Dp g→g<w.heap.size) :
    Calls Tryz.prog 36 #[.agg #[.int .u8 p.k,.bool p.b,.slice p.a1 p.n1 p.c1,.slice p.a2 p.n2 p.c2,.int .i32 p.c,.slice p.a3 p.n3 p.c3],.func (.func gf) #[] lb] w fun e w'=>∃ z1 m1 u1 z2 m2 u2,e=.returned (.agg #[.slice z1 m1 u1,.slice z2 m2 u2])∧ArV 1 (fun g=>Dp g∨Fr w.heap.size w'.heap.size g) w' (.slice z1 m1 u1) (.slice z2 m2 u2) (vecT tp ts)∧Below w.heap.size w w':=by
 have g1:=below_alloc w (.cells #[.int .u8 p.k,.bool p.b,.slice p.a1 p.n1 p.c1,.slice p.a2 p.n2 p.c2,.int .i32 p.c,.slice p.a3 p.n3 p.c3] 68);have g2:=below_alloc (w.alloc (.cells #[.int .u8 p.k,.bool p.b,.slice p.a1 p.n1 p.c1,.slice p.a2 p.n2 p.c2,.int .i32 p.c,.slice p.a3 p.n3 p.c3] 68)) (.cells #[.slice none 0 0,.slice none 0 0] 25);have g3:=below_alloc ((w.alloc (.cells #[.int .u8 p.k,.bool p.b,.slice p.a1 p.n1 p.c1,.slice p.a2 p.n2 p.c2,.int .i32 p.c,.slice p.a3 p.n3 p.c3] 68)).alloc (.cells #[.slice none 0 0,.slice none 0 0] 25)) (.cells #[.slice none 0 0] 22);have RP:=((boxA_new w #[.int .u8 p.k,.bool p.b,.slice p.a1 p.n1 p.c1,.slice p.a2 p.n2 p.c2,.int .i32 p.c,.slice p.a3 p.n3 p.c3] 68).below g2 (by simp)).below g3 (by simp;omega);have RA:=(boxA_new (w.alloc (.cells #[.int .u8 p.k,.bool p.b,.slice p.a1 p.n1 p.c1,.slice p.a2 p.n2 p.c2,.int .i32 p.c,.slice p.a3 p.n3 p.c3] 68)) #[.slice none 0 0,.slice none 0 0] 25).below g3 (by simp);have RL:=boxA_new ((w.alloc (.cells #[.int .u8 p.k,.bool p.b,.slice p.a1 p.n1 p.c1,.slice p.a2 p.n2 p.c2,.int .i32 p.c,.slice p.a3 p.n3 p.c3] 68)).alloc (.cells #[.slice none 0 0,.slice none 0 0] 25)) #[.slice none 0 0] 22;rw [World.size_alloc] at RA;rw [World.size_alloc,World.size_alloc] at RL;have g:Below w.heap.size w _:=(g1.trans (g2.mono (by simp))).trans (g3.mono (by simp;omega));have sW:(((w.alloc (.cells #[.int .u8 p.k,.bool p.b,.slice p.a1 p.n1 p.c1,.slice p.a2 p.n2 p.c2,.int .i32 p.c,.slice p.a3 p.n3 p.c3] 68)).alloc (.cells #[.slice none 0 0,.slice none 0 0] 25)).alloc (.cells #[.slice none 0 0] 22)).heap.size=w.heap.size+1+1+1:=by simp
 have HP:Hid (IsIt 0 Dp w p tp):=hpr;have HD:Hid (∀ g,Dp g→g<w.heap.size):=hDp;clear g1 g2 g3 hpr hDp;refine (callsIn_wide (n:=6)).1 ?_;refine callsIn_of_wp_marks Tryz.func36 rfl trivial ?_ rfl;simp only [Tryz.ntmps36,List.size_toArray,List.length_cons,List.length_nil,Nat.reduceAdd,Nat.reduceSub,Array.replicate_succ,Array.replicate_zero,List.push_toArray,List.append_toArray,List.nil_append,List.cons_append]
 gi_wp2_with fail
 generalize (((w.alloc (.cells #[.int .u8 p.k,.bool p.b,.slice p.a1 p.n1 p.c1,.slice p.a2 p.n2 p.c2,.int .i32 p.c,.slice p.a3 p.n3 p.c3] 68)).alloc (.cells #[.slice none 0 0,.slice none 0 0] 25)).alloc (.cells #[.slice none 0 0] 22))=W0 at *;obtain ⟨i0,hi,hz0,hz1,hz2⟩:=info_parts info_item3;refine wpIn_range_paysX rfl (by omega) (gf:=gf) (lb:=lb) rfl trivial eg (hp W0 g)
  (fun h h'=>h.trans h') (fun W l o o' hl ho _ hw=>keepW_put (B0:=W0.heap.size) (by omega) W l o o' hl ho hw) (Below.refl _ _) (fun _=>rfl)
  (fun pre W=>pre.length≤4096∧∃ a c,BoxA W (w.heap.size+1+1) 22 #[.slice a pre.length c]∧RowOf 68 6 (ElI 0 ts) W0.heap.size W (.slice a pre.length c) pre.length∧Below (w.heap.size+1+1) W0 W)
  ?hI ⟨by simp,none,0,RL,RowOf.nil,Below.refl _ _⟩ (hS W0)
  (fun c pre W=>c=.exit 0∧4096≤ts.length∧∃ a d,BoxA W (w.heap.size+1+1) 22 #[.slice a 4096 d]∧RowOf 68 6 (ElI 0 ts) W0.heap.size W (.slice a 4096 d) 4096∧Below (w.heap.size+1+1) W0 W) ?hIx
  (fun pre x a' W=>(pre.length<ts.length∧ItemAt W0.heap.size W x (ts.getD pre.length tr0))∧∃ Bx,W0.heap.size≤Bx∧BoxA W Bx 68 #[.int .u8 x.k,.bool x.b,.slice x.a1 x.n1 x.c1,.slice x.a2 x.n2 x.c2,.int .i32 x.c,.slice x.a3 x.n3 x.c3]∧a'={ tmps:=#[.agg #[.int .u8 p.k,.bool p.b,.slice p.a1 p.n1 p.c1,.slice p.a2 p.n2 p.c2,.int .i32 p.c,.slice p.a3 p.n3 p.c3],.func (.func gf) #[] lb,.pointer (some ⟨w.heap.size,0,none⟩),undef,.pointer (some ⟨w.heap.size+1,0,none⟩),.pointer (some ⟨w.heap.size+1+1,0,none⟩),.pointer (some ⟨Bx,0,none⟩),.func (.func gf) #[] lb,.agg #[.int .u8 x.k,.bool x.b,.slice x.a1 x.n1 x.c1,.slice x.a2 x.n2 x.c2,.int .i32 x.c,.slice x.a3 x.n3 x.c3],undef,undef,undef,undef,undef,undef,undef,undef,undef,undef,undef,undef,undef,undef,undef,undef,undef,undef,undef],defers:=[] })
  ?hAx ?assign ?body ?done ?stop
 case hI=>
  rintro s A B row ⟨h0,a,c,b1,b2,b3⟩ hg hrow;exact ⟨h0,a,c,boxA_kept b1 hg (fun k e=>(hrow k e).2),rowI_grown b2 hg (fun k e=>(hrow k e).2),b3.grown hg (by have:=b1.lt;omega) (fun k e=>by have:=(hrow k e).1;omega)⟩
 case hIx=>
  rintro c s A B row ⟨hc,hl,a,d,b1,b2,b3⟩ hg hrow;exact ⟨hc,hl,a,d,boxA_kept b1 hg (fun k e=>(hrow k e).2),rowI_grown b2 hg (fun k e=>(hrow k e).2),b3.grown hg (by have:=b1.lt;omega) (fun k e=>by have:=(hrow k e).1;omega)⟩
 case hAx=>
  rintro pre x a' _ A B row ⟨⟨h0,h1⟩,Bx,h2,h3,h4⟩ hg hrow;exact ⟨⟨h0,h1.grown hg (fun k e=>(hrow k e).2)⟩,Bx,h2,boxA_kept h3 hg (fun k e=>(hrow k e).2),h4⟩
 case assign=>
  rintro l pre x W K ⟨hl,a,c,b1,b2,b3⟩ hG hK;dsimp only [IV.encs];have s3:=b3.size;obtain ⟨q1,q2⟩:=hGd W0 pre x W hG;have q3:=q2.grown (World.grownBy_alloc W (.cells #[.int .u8 x.k,.bool x.b,.slice x.a1 x.n1 x.c1,.slice x.a2 x.n2 x.c2,.int .i32 x.c,.slice x.a3 x.n3 x.c3] 68) none) (fun k e=>by cases e);have kx:=below_alloc W (.cells #[.int .u8 x.k,.bool x.b,.slice x.a1 x.n1 x.c1,.slice x.a2 x.n2 x.c2,.int .i32 x.c,.slice x.a3 x.n3 x.c3] 68);have BX:=boxA_new W #[.int .u8 x.k,.bool x.b,.slice x.a1 x.n1 x.c1,.slice x.a2 x.n2 x.c2,.int .i32 x.c,.slice x.a3 x.n3 x.c3] 68;have c1:=b1.below kx b1.lt;have c2:=b2.below (elI_ok 0 ts) kx (Nat.le_refl _);have c3:=b3.trans (kx.mono (by have:=b1.lt;omega));have hk1:=(KeepsOthers.alloc W (.cells #[.int .u8 x.k,.bool x.b,.slice x.a1 x.n1 x.c1,.slice x.a2 x.n2 x.c2,.int .i32 x.c,.slice x.a3 x.n3 x.c3] 68));have hk2:KeepW w.heap.size W _:=⟨kx.mono (by omega),hk1.walks⟩;clear b1 b2 b3 hG kx q2
  gi_wp2
  exact hK _ _ (hk1.from _) hk2 ⟨hl,a,c,c1,c2,c3⟩ ⟨⟨q1,q3⟩,W.heap.size,s3,BX,rfl⟩
 case body=>
  rintro l pre x a' W ⟨hl,a,c,b1,b2,b3⟩ ⟨⟨q1,q2⟩,Bx,hBx,bX,rfl⟩;have s3:=b3.size;have cO:=b1.cell 0 rfl;have fO:=b1.frozen 0;by_cases hlen:pre.length=4096
  · have hd:decide (((pre.length:Nat):Int)=4096)=true:=by simp;omega
    have hd2:(((pre.length:Nat):Int)==4096)=true:=by rw [beq_iff_eq];omega
    have H1:Hid (BoxA W (w.heap.size+1+1) 22 #[.slice a 4096 c]):=by unfold Hid;rw [← hlen];exact b1
    have H2:Hid (RowOf 68 6 (ElI 0 ts) W0.heap.size W (.slice a 4096 c) 4096):=by unfold Hid;rw [← hlen];exact b2
    have H3:Hid (4096≤ts.length):=by unfold Hid;omega
    clear hlen b2 q1 q2
    gi_wp2_with fail
    exact ⟨KeepsFrom.refl _ _,rfl,H3.out,a,c,H1.out,H2.out,b3⟩
  have hd:decide (((pre.length:Nat):Int)=4096)=false:=by simp;omega
  have hd2:(((pre.length:Nat):Int)==4096)=false:=by rw [beq_eq_false_iff_ne];omega
  have m0:=bX.cell 0 rfl;have m1:=bX.cell 1 rfl;have m2:=bX.cell 2 rfl;have m3:=bX.cell 3 rfl;have m4:=bX.cell 4 rfl;have m5:=bX.cell 5 rfl;have kx:=below_alloc W (.cells #[.int .u8 x.k,.bool x.b,.slice x.a1 x.n1 x.c1,.slice x.a2 x.n2 x.c2,.int .i32 x.c,.slice x.a3 x.n3 x.c3] 68);obtain ⟨xs,ho,he⟩:=b2;have HE:Hid (∀ j,j<pre.length→ElI 0 ts (FrR W0.heap.size W (.slice a pre.length c)) W (cellsOf xs 6 j) j):=he;have HQ:Hid (ItemAt W0.heap.size W x (ts.getD pre.length tr0)):=q2;clear he q2
  gi_wp2_with (gi_at_builtin;refine wpListIn_append_at _ rfl _ _ 22 rfl W0.heap.size 68 i0 (.agg #[.int .u8 0,.bool false,.slice none 0 0,.slice none 0 0,.int .i32 0,.slice none 0 0]) 6 96 Tryz.underlying22 hi hz0 hz1 hz2 rfl (by decide) _ _ _ rfl (ho.alloc _) ⟨W.heap.size,0,none⟩ 1 1 [.int .u8 x.k,.bool x.b,.slice x.a1 x.n1 x.c1,.slice x.a2 x.n2 x.c2,.int .i32 x.c,.slice x.a3 x.n3 x.c3] rfl rfl (cells_new W #[.int .u8 x.k,.bool x.b,.slice x.a1 x.n1 x.c1,.slice x.a2 x.n2 x.c2,.int .i32 x.c,.slice x.a3 x.n3 x.c3] _) (by intro u hu;simp at hu;rcases hu with rfl | rfl | rfl | rfl | rfl | rfl <;> rfl) ?c3 ?c4 ?c5 ?_)
  case c3=>unfold maxLen;omega
  case c4=>omega
  case c5=>have:=kx.size;omega
  intro v' wa hown' hgrow hvo;obtain ⟨g',cap',rfl⟩:=row_form3 hown';have hel:ElI 0 ts (FrR W0.heap.size W (.slice a pre.length c)) W (fun k=>([.int .u8 x.k,.bool x.b,.slice x.a1 x.n1 x.c1,.slice x.a2 x.n2 x.c2,.int .i32 x.c,.slice x.a3 x.n3 x.c3]:List Value)[k]?) pre.length:=by
   have hi:=HQ.out;refine ⟨x.a1,x.c1,x.a2,x.c2,x.a3,x.c3,⟨by rw [← hi.k];rfl,by rw [← hi.b];rfl,by rw [← hi.n1];rfl,by rw [← hi.n2];rfl,by rw [← hi.c];rfl,by rw [← hi.n3];rfl⟩,?_⟩;refine (IsIt.imp hi (D':=FrR W0.heap.size W (.slice a pre.length c)) ?_ (fun _ _=>rfl)).v;rintro q ⟨h1,h2⟩;refine ⟨h1,?_,notRow_ne ho h2⟩;obtain ⟨cs,ty,fz,e,_⟩:=h2;exact lt_of_block e
  have t1:=RowOf.push2 (elI_ok 0 ts) ho HE.out s3 rfl hel (by rw [sW];exact hown') hgrow (by rw [World.size_alloc];exact hvo);have hrow:∀ j,(Value.slice a pre.length c).ownBlock=some j→w.heap.size+1+1+1≤j:=fun j hj=>by have:=(row_own ho j hj).1;omega
  have hne:(Value.slice a pre.length c).ownBlock≠some (w.heap.size+1+1):=fun e=>by have:=hrow _ e;omega
  have bO2:=boxA_grown (b1.below kx b1.lt) hgrow hne;have cO2:=bO2.cell 0 rfl;have fO2:=bO2.frozen 0;have sa:=hgrow.size;have sx:=kx.size;have kB1:Below (w.heap.size+1+1) W wa:=(kx.mono (by omega)).grown hgrow (by omega) (fun k e=>by have:=hrow k e;omega);have kF1:KeepsOthers W wa:=(KeepsOthers.alloc W _).trans (KeepsOthers.of_grownBy hgrow (fun j o e ho'=>by obtain ⟨o',ho2,hc⟩:=row_isC (ho.alloc (.cells #[.int .u8 x.k,.bool x.b,.slice x.a1 x.n1 x.c1,.slice x.a2 x.n2 x.c2,.int .i32 x.c,.slice x.a3 x.n3 x.c3] 68)) j e;rw [ho'] at ho2;cases ho2;exact hc));have T1:Hid (RowOf 68 6 (ElI 0 ts) W0.heap.size wa (.slice g' (pre.length+1) cap') (pre.length+1)):=t1;clear t1 hel hown' hgrow hvo
  gi_wp2
  have kF2:=kF1.trans (KeepsOthers.setCell wa ⟨w.heap.size+1+1,0,none⟩ (.slice g' (pre.length+1) cap'));have hlp:(pre++[x]).length=pre.length+1:=by simp
  refine ⟨kF2.from _,⟨(kB1.mono (by omega)).setCell (p:=⟨w.heap.size+1+1,0,none⟩) (show w.heap.size≤w.heap.size+1+1 by omega) _,kF2.walks⟩,by rw [hlp];omega,g',cap',?_,?_,?_⟩
  · rw [hlp];exact boxA_p1 bO2 _
  · rw [hlp];exact T1.out.setCell (elI_ok 0 ts) (a:=⟨w.heap.size+1+1,0,none⟩) (by show w.heap.size+1+1<_;omega) _
  · exact (b3.trans kB1).setCell (p:=⟨w.heap.size+1+1,0,none⟩) (Nat.le_refl _) _
 case' done=>
  rintro D xs W hD hxs ⟨hl,a,c,b1,b2,b3⟩ hK;have HX:Hid (xs.length=ts.length):=hSl W0 xs W hxs;obtain ⟨n,hn⟩:∃ n,xs.length=n:=⟨_,rfl⟩;rw [hn] at b1 b2 hl;have HN:Hid (n=(ts.take 4096).length):=by unfold Hid;rw [List.length_take,← HX.out,hn];omega
  clear hxs HX hn
 case' stop=>
  rintro D c ps W hD hsp ⟨rfl,hl4,a,c,b1,b2,b3⟩ hK;obtain ⟨n,hn⟩:∃ n:Nat,n=4096:=⟨_,rfl⟩;rw [← hn] at b1 b2;have HN:Hid (n=(ts.take 4096).length):=by unfold Hid;rw [List.length_take];omega
  have hl:n≤4096:=by omega
  clear hl4 hsp hn
 all_goals
  have s3:=b3.size;have cO:=b1.cell 0 rfl;have RP':=(RP.below b3 (by omega));have RA':=(RA.below b3 (by omega));have gW:Below w.heap.size w W:=g.trans (b3.mono (by omega));by_cases h0:n=0
  · have hd:decide (((n:Nat):Int)=0)=true:=decide_eq_true (by omega)
    have hd2:(((n:Nat):Int)==0)=true:=by rw [beq_iff_eq];omega
    have H0:Hid (n=0):=h0;have k1:=below_alloc W (.cells #[.int .i64 0] 3);have k2:=below_alloc (W.alloc (.cells #[.int .i64 0] 3)) (.cells #[.int .u8 p.k,.bool p.b,.slice p.a1 p.n1 p.c1,.slice p.a2 p.n2 p.c2,.int .i32 p.c,.slice p.a3 p.n3 p.c3] 68);have RP1:=RP'.below k1 (by omega);have RA2:=(RA'.below k1 (by omega)).below k2 (by simp;omega);have q0:=RA2.frozen 0;have q2:=RA2.cell 0 rfl;have q3:=RA2.cell 1 rfl;have q1:=RA2.frozen 1;have p0:=RP1.cell 0 rfl;have p1:=RP1.cell 1 rfl;have p2:=RP1.cell 2 rfl;have p3:=RP1.cell 3 rfl;have p4:=RP1.cell 4 rfl;have p5:=RP1.cell 5 rfl;clear h0
    gi_wp2
    have hDW:D<W.heap.size:=(Array.getElem?_eq_some_iff.1 hK).1;have hK2:=((KeepsOthers.alloc W (.cells #[.int .i64 0] 3)).trans ((KeepsOthers.alloc _ (.cells #[.int .u8 p.k,.bool p.b,.slice p.a1 p.n1 p.c1,.slice p.a2 p.n2 p.c2,.int .i32 p.c,.slice p.a3 p.n3 p.c3] 68)).trans ((KeepsOthers.setCell _ ⟨w.heap.size+1,0,none⟩ (.slice (some ⟨W.heap.size,0,none⟩) 1 1)).trans (KeepsOthers.setCell _ ⟨w.heap.size+1,1,none⟩ (.slice (some ⟨W.heap.size+1,0,none⟩) 1 1))))).same D _ hK rfl;refine ⟨by simp,.inl ⟨_,_,rfl,run_takeDeferred hK2,?_⟩⟩;have hgp:=grownBy_putObj' ((((W.alloc (.cells #[.int .i64 0] 3)).alloc (.cells #[.int .u8 p.k,.bool p.b,.slice p.a1 p.n1 p.c1,.slice p.a2 p.n2 p.c2,.int .i32 p.c,.slice p.a3 p.n3 p.c3] 68)).setCell ⟨w.heap.size+1,0,none⟩ (.slice (some ⟨W.heap.size,0,none⟩) 1 1)).setCell ⟨w.heap.size+1,1,none⟩ (.slice (some ⟨W.heap.size+1,0,none⟩) 1 1)) D (.deferred none);have hX:=boxA_grown (RA2.set2 (.slice (some ⟨W.heap.size,0,none⟩) 1 1) (.slice (some ⟨W.heap.size+1,0,none⟩) 1 1)) hgp (fun e=>by cases e;omega);have x0:=hX.cell 0 rfl;have x1:=hX.cell 1 rfl;have N1:=boxA_grown (boxA_o (boxA_o ((boxA_new W #[.int .i64 0] 3).below k2 (by simp)) (p:=⟨w.heap.size+1,0,none⟩) (show w.heap.size+1≠W.heap.size by omega) (.slice (some ⟨W.heap.size,0,none⟩) 1 1)) (p:=⟨w.heap.size+1,1,none⟩) (show w.heap.size+1≠W.heap.size by omega) (.slice (some ⟨W.heap.size+1,0,none⟩) 1 1)) hgp (fun e=>by cases e;omega);have N2:=boxA_grown (boxA_o (boxA_o (boxA_new (W.alloc (.cells #[.int .i64 0] 3)) #[.int .u8 p.k,.bool p.b,.slice p.a1 p.n1 p.c1,.slice p.a2 p.n2 p.c2,.int .i32 p.c,.slice p.a3 p.n3 p.c3] 68) (p:=⟨w.heap.size+1,0,none⟩) (show w.heap.size+1≠(W.alloc (.cells #[.int .i64 0] 3)).heap.size by simp;omega) (.slice (some ⟨W.heap.size,0,none⟩) 1 1)) (p:=⟨w.heap.size+1,1,none⟩) (show w.heap.size+1≠(W.alloc (.cells #[.int .i64 0] 3)).heap.size by simp;omega) (.slice (some ⟨W.heap.size+1,0,none⟩) 1 1)) hgp (fun e=>by have h:=Option.some.inj e;simp at h;omega);rw [World.size_alloc] at N2;have kF:=((((gW.trans (k1.mono (by omega))).trans (k2.mono (by simp;omega))).setCell (p:=⟨w.heap.size+1,0,none⟩) (show w.heap.size≤w.heap.size+1 by omega) (.slice (some ⟨W.heap.size,0,none⟩) 1 1)).setCell (p:=⟨w.heap.size+1,1,none⟩) (show w.heap.size≤w.heap.size+1 by omega) (.slice (some ⟨W.heap.size+1,0,none⟩) 1 1)).grown hgp (by simp [World.setCell];omega) (fun k e=>by cases e;omega);have hts:ts.length=0:=by have:=HN.out;have:=H0.out;rw [List.length_take] at *;omega
    have e1:vecT tp ts=arrT [0] [tp]:=by unfold vecT vecK;rw [if_pos hts,← HN.out,H0.out];rfl
    refine ⟨.agg #[(.slice (some ⟨W.heap.size,0,none⟩) 1 1),(.slice (some ⟨W.heap.size+1,0,none⟩) 1 1)],by simp [results,Tryz.results36,go_sem,x0,x1],_,_,_,_,_,_,rfl,?_,kF⟩;rw [e1];refine ⟨rdN_one N1 (Or.inr ⟨by omega,N1.lt⟩) (by omega) (by omega),?_⟩;refine ⟨_,1,rfl,Nat.le_refl _,by omega,(fun h=>by cases h),Or.inr ⟨W.heap.size+1,0,rfl,Or.inr ⟨by omega,N2.lt⟩,fun j hj => ?_⟩⟩;have hj:j<1:=hj;obtain rfl:j=0:=by omega
    exact itc_of (HP.out.imp (fun _ h=>Or.inl h) (Agree.of kF HD.out)) N2
  have hd:decide (((n:Nat):Int)=0)=false:=decide_eq_false (by omega);have hd2:(((n:Nat):Int)==0)=false:=by rw [beq_eq_false_iff_ne];omega
  have k1:=below_alloc W (.cells #[.int .i64 (n:Int)] 3);have cO1:=(b1.below k1 (by omega)).cell 0 rfl;have RA1:=RA'.below k1 (by omega);have q0:=RA1.frozen 0;have q2:=RA1.cell 0 rfl;have q3:=RA1.cell 1 rfl;have q1:=RA1.frozen 1;have HR:Hid (RowOf 68 6 (ElI 0 ts) W0.heap.size W (.slice a n c) n):=b2;clear b2
  gi_wp2
  have hDW:D<W.heap.size:=(Array.getElem?_eq_some_iff.1 hK).1;have hK2:=((KeepsOthers.alloc W (.cells #[.int .i64 (n:Int)] 3)).trans ((KeepsOthers.setCell _ ⟨w.heap.size+1,0,none⟩ (.slice (some ⟨W.heap.size,0,none⟩) 1 1)).trans (KeepsOthers.setCell _ ⟨w.heap.size+1,1,none⟩ (.slice a n c)))).same D _ hK rfl;refine ⟨by simp,.inl ⟨_,_,rfl,run_takeDeferred hK2,?_⟩⟩;have hgp:=grownBy_putObj' (((W.alloc (.cells #[.int .i64 (n:Int)] 3)).setCell ⟨w.heap.size+1,0,none⟩ (.slice (some ⟨W.heap.size,0,none⟩) 1 1)).setCell ⟨w.heap.size+1,1,none⟩ (.slice a n c)) D (.deferred none);have hX:=boxA_grown (RA1.set2 (.slice (some ⟨W.heap.size,0,none⟩) 1 1) (.slice a n c)) hgp (fun e=>by cases e;omega);have x0:=hX.cell 0 rfl;have x1:=hX.cell 1 rfl;have N1:=boxA_grown (boxA_o (boxA_o (boxA_new W #[.int .i64 (n:Int)] 3) (p:=⟨w.heap.size+1,0,none⟩) (show w.heap.size+1≠W.heap.size by omega) (.slice (some ⟨W.heap.size,0,none⟩) 1 1)) (p:=⟨w.heap.size+1,1,none⟩) (show w.heap.size+1≠W.heap.size by omega) (.slice a n c)) hgp (fun e=>by cases e;omega);have kF:=(((gW.trans (k1.mono (by omega))).setCell (p:=⟨w.heap.size+1,0,none⟩) (show w.heap.size≤w.heap.size+1 by omega) (.slice (some ⟨W.heap.size,0,none⟩) 1 1)).setCell (p:=⟨w.heap.size+1,1,none⟩) (show w.heap.size≤w.heap.size+1 by omega) (.slice a n c)).grown hgp (by simp [World.setCell];omega) (fun k e=>by cases e;omega);have hRF:=rowI_grown (((HR.out.below (elI_ok 0 ts) k1 (Nat.le_refl _)).setCell (elI_ok 0 ts) (a:=⟨w.heap.size+1,0,none⟩) (by show w.heap.size+1<_;omega) (.slice (some ⟨W.heap.size,0,none⟩) 1 1)).setCell (elI_ok 0 ts) (a:=⟨w.heap.size+1,1,none⟩) (by show w.heap.size+1<_;omega) (.slice a n c)) hgp (fun k e=>by cases e;exact ⟨_,hK2,rfl⟩);have hts:¬ ts.length=0:=by have:=HN.out;rw [List.length_take] at this;omega
  have e1:vecT tp ts=arrT [(n:Int)] (ts.take 4096):=by unfold vecT vecK;rw [if_neg hts,← HN.out]
  refine ⟨.agg #[(.slice (some ⟨W.heap.size,0,none⟩) 1 1),(.slice a n c)],by simp [results,Tryz.results36,go_sem,x0,x1],_,_,_,_,_,_,rfl,?_,kF⟩;rw [e1];refine ⟨rdN_one N1 (Or.inr ⟨by omega,N1.lt⟩) (by omega) (by omega),?_⟩;show RowB _ (ts.take 4096).length (.slice a n c) _;rw [← HN.out];refine RowB.imp (rowB_I (D:=Fr w.heap.size _) hRF (fun q h1 h2=>⟨by omega,h2⟩)) (fun _ h=>Or.inr h) (fun g' o j hg' hj hc => ?_);have ej:(arrT [(n:Int)] (ts.take 4096)).kids.getD j tr0=ts.getD j tr0:=by
   show (ts.take 4096).getD j tr0=_;rw [List.getD_eq_getElem?_getD,List.getElem?_take_of_lt (by omega),← List.getD_eq_getElem?_getD]
  rw [ej];exact hc.imp hg' (fun _ h=>Or.inr h) (fun _ _=>rfl) (fun _ _ _ h=>h.elim)
end
section
open Go.RowKit
theorem arrInt_any (w:World) (q:Int) (hq0:-9223372036854775808≤q) (hq1:q<9223372036854775808):Calls Tryz.prog 10 #[.int .i64 q] w fun e w'=>∃ b ns ds,Hid (WholeIs q b ns ds)∧ScalarAns w b ns ds e w':=by
 have R:=boxA_new w #[.slice none 0 0,.slice none 0 0] 25;have g:=below_alloc w (.cells #[.slice none 0 0,.slice none 0 0] 25);have s0:w.heap.size<(w.alloc (.cells #[.slice none 0 0,.slice none 0 0] 25)).heap.size:=by simp
 go_enter Tryz.func10,Tryz.ntmps10
 go_wp2_with fail
 generalize hA:w.alloc (.cells #[.slice none 0 0,.slice none 0 0] 25)=v at *;clear hA;refine (ofInt_any q hq0 hq1 _).mono ?_;rintro e w1 ⟨k1,bo,on,od,o1,o2,o3,o4,HO,rfl,oo,oe⟩
 go_wp2_with fail
 refine number_any.mono ?_;rintro e w2 ⟨rfl,k2⟩;have s1:=k1.size;have t2:Below v.heap.size v w2:=k1.trans (k2.mono s1);have p1:=oo.below k2 (Nat.le_refl _);have p2:=oe.below k2 (Nat.le_refl _)
 go_wp2_with fail
 refine scalar_any.mono ?_;rintro e w3 ⟨k,rfl,hk,hB,k3⟩;have s2:=t2.size;have t3:Below v.heap.size v w3:=t2.trans (k3.mono s2);have hN:NumAt v.heap.size w3 k bo on od:=⟨by omega,_,_,_,_,hB,p1.below k3 (Nat.le_refl _),p2.below k3 (Nat.le_refl _)⟩;have HN:Hid (NumAt v.heap.size w3 k bo on od):=hN;clear hN;have R3:=R.below t3 s0;have q0:=R3.cell 0 rfl;have q1:=R3.cell 1 rfl;have f0:=R3.frozen 0;have f1:=R3.frozen 1;go_wp2
 have R4:=R3.set2 (.slice none 0 0) (.slice (some ⟨k,0,none⟩) 1 1);have r0:=R4.cell 0 rfl;have r1:=R4.cell 1 rfl;refine bodyPost_ret (v:=.agg #[.slice none 0 0,.slice (some ⟨k,0,none⟩) 1 1]) (by simp [results,Tryz.results10,go_sem,r0,r1]) rfl ?_;exact ⟨bo,on,od,HO,k,rfl,(HN.out.set2 s0 _ _).mono (by omega),Below.set2 (g.trans (t3.mono (by omega))) (Nat.le_refl _) _ _⟩
theorem numAt_arv {base k:Nat} {w:World} {b:Bool} {ns ds:List Int} (h:NumAt base w k b ns ds):ArV 1 (Fr base w.heap.size) w (.slice none 0 0) (.slice (some ⟨k,0,none⟩) 1 1) (arrT [] [numT b ns ds]):=by
 have hlt:=h.lt;obtain ⟨hk,x1,y1,x2,y2,hB,o1,o2⟩:=h;refine ⟨⟨(fun x h=>by cases h),none,0,rfl,Nat.le_refl _,by omega,fun _=>rfl,Or.inl rfl⟩,some ⟨k,0,none⟩,1,rfl,Nat.le_refl _,by omega,(fun h=>by cases h),Or.inr ⟨k,0,rfl,⟨hk,hlt⟩,fun j hj => ?_⟩⟩;have hj:j<1:=hj;obtain rfl:j=0:=by omega
 obtain ⟨e0,e1,e2,e3,e4,e5⟩:=hB.num;exact ⟨x1,y1,x2,y2,none,0,⟨e0,e1,e2,e3,e4,e5⟩,RdL.of_own o1,RdL.of_own o2,none,0,rfl,Nat.le_refl _,by omega,fun _=>rfl,Or.inl rfl⟩
end
section
open Go.RowKit Go.Shelf
attribute [local go_sem] Oper.semAt_some
def limbs2 (n:Int):List Int:=if n=0 then [] else if n<4294967296 then [n] else [n % 4294967296,n/4294967296]
theorem limbs2_ok {n:Int} (h0:0≤n) (h1:n≤9223372036854775808):can (limbs2 n)∧val (limbs2 n)=n:=by
 unfold limbs2;by_cases hz:n=0
 · rw [if_pos hz];exact ⟨⟨lim_nil,Or.inl rfl⟩,by rw [hz];rfl⟩
 rw [if_neg hz];by_cases hs:n<4294967296
 · rw [if_pos hs]
   refine ⟨⟨?_,Or.inr (by simpa using hz)⟩,by simp [val]⟩;intro x hx;simp at hx;subst hx;omega
 · rw [if_neg hs]
   refine ⟨⟨?_,Or.inr ?_⟩,?_⟩
   · intro x hx
     simp at hx;rcases hx with rfl | rfl <;> omega
   · simp;omega
   · simp [val];omega
/-- A whole number as an item. -/
def wholeT (q:Int):Tr:=numT (decide (q<0)) (limbs2 (if q<0 then -q else q)) [1]
theorem wholeIs_eq {q:Int} {b:Bool} {ns ds:List Int} (h0:-9223372036854775808≤q) (h1:q<9223372036854775808) (h:WholeIs q b ns ds):numT b ns ds=wholeT q:=by
 obtain ⟨rfl,hc,hv,_,rfl⟩:=h;unfold wholeT;have hl:=limbs2_ok (n:=if q<0 then -q else q) (by split <;> omega) (by split <;> omega);rw [can_inj hc hl.1 (by rw [hv,hl.2])]
theorem own_notRow {base:Nat} {w:World} {v:Value} {xs:List Int} (h:Own base w v xs):RdL (fun g=>base≤g∧NotRow w g) w v xs:=by
 obtain ⟨h0,hl,h | ⟨g,cap,cur,rfl,hg,hh,h1,h2,h3,h4⟩⟩:=h
 · obtain ⟨rfl,hz⟩:=h
   have:xs=[]:=List.eq_nil_of_length_eq_zero hz;subst this;exact ⟨h0,none,0,rfl,Nat.le_refl _,by omega,fun _=>rfl,Or.inl rfl⟩
 · refine ⟨h0,_,cap,rfl,h1,by unfold maxLen at h2;omega,(fun h=>by cases h),Or.inr ⟨g,0,rfl,⟨hg,_,_,_,hh,by decide⟩,fun j hj => ?_⟩⟩
   have e:cur.toList[j]? = (xs.map (Value.int .u32))[j]?:=by rw [← h4,List.getElem?_take];simp;omega
   rw [getD_map_u32 xs j hj] at e;simp only [World.cell?,hh,Nat.zero_add];simpa using e
theorem itemAt_num {base:Nat} {w:World} {b:Bool} {ns ds:List Int} {a1 a2:Option Addr} {c1 c2:Nat} (h1:Own base w (.slice a1 ns.length c1) ns) (h2:Own base w (.slice a2 ds.length c2) ds):ItemAt base w ⟨1,b,a1,ns.length,c1,a2,ds.length,c2,0,none,0,0⟩ (numT b ns ds):=
 ⟨rfl,rfl,rfl,rfl,rfl,rfl,own_notRow h1,own_notRow h2,⟨none,0,rfl,Nat.le_refl _,by omega,fun _=>rfl,Or.inl rfl⟩⟩
theorem grown_of {w w':World} (k:Below w.heap.size w w') (row:Option Nat):w.grownBy w' row:=⟨k.os,k.tape,k.output,k.size,fun g hg _=>k.block g hg⟩
theorem wholes_pays {w w0:World} {D:Nat→Prop} {a:Option Addr} {c:Nat} {l:List Int} {Bn n₀:Nat} (n:Nat) (hn:2≤n) (hb0:Below n₀ w0 w) (hs0:n₀≤w0.heap.size) (hn₀:Bn<n₀) (hBn:BoxA w0 Bn 23 #[.slice a l.length c]) (hR:RdN D w0 (.slice a l.length c) l) (hD:∀ g,D g→g<n₀) :
    PaysX Fence.wide n Tryz.prog 68 #[.pointer (some ⟨Bn,0,none⟩)] IV.encs (KeepW n₀) (fun pre x W=>pre.length<(l.map wholeT).length∧ItemAt w.heap.size W x ((l.map wholeT).getD pre.length tr0)) (fun xs W=>xs.length=(l.map wholeT).length) (fun _=>True) w:=by
 intro L J Jx W hW hJ hJx hY hJ0;have hsb:=hb0.size;have hW0:Below n₀ w0 W:=hb0.trans (hW.mono (by omega));have hBW:=hBn.below hW0 hn₀;have hsW:=hW.size;have c0:=hBW.cell 0 rfl;have bd:=hR.bounds;have HR:Hid (RdN D w0 (.slice a l.length c) l):=hR;have HD:Hid (∀ g,D g→g<n₀):=hD;have hin:=hR.1;clear hR hD;refine callsIn_of_wp Tryz.func68 rfl trivial ?_ rfl;simp only [Tryz.ntmps68,List.size_toArray,List.length_cons,List.length_nil,Nat.reduceAdd,Nat.reduceSub,Array.replicate_succ,Array.replicate_zero,List.push_toArray,List.append_toArray,List.nil_append,List.cons_append]
 gi_wp2
 clear c0
 gi_loopw [7] (fun iv wr=>∃ (i:Nat) (pre:List IV),iv=.int .i64 i∧i≤l.length∧pre.length=i∧J pre wr∧Below n₀ w0 wr∧w.heap.size≤wr.heap.size) (fun iv _=>l.length - (intOf iv).toNat)
 case atStart=>exact ⟨0,[],rfl,Nat.zero_le _,rfl,hJ0,hW0,hsW⟩
 case round=>
  obtain ⟨i,pre,rfl,hil,hpl,hJs,hbr,hsr⟩:=hrel;have HPL:Hid (pre.length=i):=hpl;clear hpl;by_cases hlt:i<l.length
  · obtain ⟨g1,o1,rfl,hg1,hc1⟩:=HR.out.ptr (by omega)
    have E:=(hbr.cell (p:=⟨g1,o1+i,none⟩) (HD.out g1 hg1)).trans (hc1 i hlt);obtain ⟨q,hq⟩:∃ q,l.getD i 0=q:=⟨_,rfl⟩;rw [hq] at E;have HQ:Hid ((l.map wholeT).getD i tr0=wholeT q):=by
     unfold Hid;rw [List.getD_eq_getElem?_getD,List.getElem?_map,← hq,List.getD_eq_getElem?_getD,List.getElem?_eq_getElem hlt];rfl
    have hqi:-9223372036854775808≤q∧q≤9223372036854775807:=hin q (by rw [← hq,List.getD_eq_getElem?_getD,List.getElem?_eq_getElem hlt];exact List.getElem_mem hlt);obtain ⟨hq0,hq1⟩:=hqi;clear hc1 hq
    gi_wp2_with fail
    refine ⟨trivial,fun _=>by omega,?_⟩;refine (callsIn_wide.2 (ofInt_any q hq0 (by omega) _)).mono ?_;rintro e w1 ⟨k1,bo,on,od,z1,u1,z2,u2,HO,rfl,oo,oe⟩;have s1:=k1.size
    gi_wp2_with fail
    refine ⟨trivial,fun _=>by omega,?_⟩;refine (callsIn_wide.2 (number_any)).mono ?_;rintro e w2 ⟨rfl,k2⟩;have s2:=k2.size;have k12:Below wr.heap.size wr w2:=k1.trans (k2.mono s1);have hit:ItemAt w.heap.size w2 ⟨1,bo,z1,on.length,u1,z2,od.length,u2,0,none,0,0⟩ (wholeT q):=by
     rw [← wholeIs_eq hq0 (by omega) HO.out];exact itemAt_num ((oo.below k2 (Nat.le_refl _)).mono (by omega)) ((oe.below k2 (Nat.le_refl _)).mono (by omega))
    have hJ3:=hJ pre wr _ none hJs (grown_of k12 none) (fun r e=>by cases e);have sb:=hbr.size;have hb3:Below n₀ w0 w2:=hbr.trans (k12.mono (by omega));obtain ⟨fn,tmps,assign,body,hy,hRd⟩:=hY pre ⟨1,bo,z1,on.length,u1,z2,od.length,u2,0,none,0,0⟩ w2 hJ3 ⟨by rw [HPL.out,List.length_map];exact hlt,by rw [HPL.out,HQ.out];exact hit⟩;dsimp only [IV.encs] at hy;clear hit oo oe k1 k2
    gi_wp2
    refine ⟨fun _=>by omega,hRd.mono ?_⟩;rintro e W4 (⟨rfl,hJ4,hk4⟩ | ⟨rfl,hJ4⟩)
    · have hb4:=hb3.trans hk4.below
      have s4:=hk4.below.size;have s5:w2.heap.size≤W4.heap.size:=hk4.others.size
      gi_wp2
      go_roundw
      case rel=>exact ⟨i+1,_,by go_num,by omega,by rw [List.length_append,HPL.out];rfl,hJ4,hb4,by omega⟩
      case measure=>simp [intOf];omega
    · gi_wp2
      refine bodyPost_ret (results_none rfl _ _ _) rfl ?_;exact ⟨⟨_,rfl⟩,Or.inr ⟨_,trivial,hJ4⟩⟩
  · have HE:Hid (pre.length=(l.map wholeT).length):=by unfold Hid;rw [List.length_map,HPL.out];omega
    have hd:i=l.length:=by omega
    have hd2:(((i:Nat):Int)<((l.length:Nat):Int))=False:=by simp;omega
    clear hd
    gi_wp2
    go_end0
    exact ⟨⟨_,rfl⟩,Or.inl ⟨pre,HE.out,hJs⟩⟩
theorem wholes_any {w:World} {a:Option Addr} {n c:Nat}:Calls Tryz.prog 37 #[.slice a n c] w fun e w'=>e=.returned (.func (.func 68) #[] #[.pointer (some ⟨w.heap.size,0,none⟩)])∧w'=w.alloc (.cells #[.slice a n c] 23):=by
 go_enter Tryz.func37,Tryz.ntmps37;go_wp2
 go_ret
 exact ⟨rfl,rfl⟩
theorem ints_any {w:World} {D:Nat→Prop} {a:Option Addr} {c:Nat} {l:List Int} (h:RdN D w (.slice a l.length c) l) (hD:∀ g,D g→g<w.heap.size) :
    Calls Tryz.prog 14 #[.slice a l.length c] w fun e w'=>∃ z1 m1 u1 z2 m2 u2,e=.returned (.agg #[.slice z1 m1 u1,.slice z2 m2 u2])∧ArV 1 (Fr w.heap.size w'.heap.size) w' (.slice z1 m1 u1) (.slice z2 m2 u2) (vecT (wholeT 0) (l.map wholeT))∧Below w.heap.size w w':=by
 have R:=boxA_new w #[.slice none 0 0,.slice none 0 0] 25;have g:=below_alloc w (.cells #[.slice none 0 0,.slice none 0 0] 25);have s0:w.heap.size<(w.alloc (.cells #[.slice none 0 0,.slice none 0 0] 25)).heap.size:=by simp
 have H:Hid (RdN D w (.slice a l.length c) l):=h;have HD:Hid (∀ g,D g→g<w.heap.size):=hD;clear h hD;go_enter Tryz.func14,Tryz.ntmps14
 go_wp2_with fail
 generalize hA:w.alloc (.cells #[.slice none 0 0,.slice none 0 0] 25)=v at *;clear hA;refine (ofInt_any 0 (by omega) (by omega) _).mono ?_;rintro e w1 ⟨k1,bo,on,od,o1,o2,o3,o4,HO,rfl,oo,oe⟩
 go_wp2_with fail
 refine number_any.mono ?_;rintro e w2 ⟨rfl,k2⟩;have s1:=k1.size;have s2:=k2.size;have t2:Below v.heap.size v w2:=k1.trans (k2.mono s1);have p1:=oo.below k2 (Nat.le_refl _);have p2:=oe.below k2 (Nat.le_refl _);clear oo oe k1
 go_wp2_with fail
 refine wholes_any.mono ?_;rintro e w3 ⟨rfl,hw3⟩;have B3:=boxA_new w2 #[.slice a l.length c] 23;have k3:=below_alloc w2 (.cells #[.slice a l.length c] 23);rw [← hw3] at B3 k3;clear hw3;have s3:=B3.lt;have t3:Below v.heap.size v w3:=t2.trans (k3.mono (by omega));have hT:numT bo on od=wholeT 0:=wholeIs_eq (by omega) (by omega) HO.out;have hit:IsIt 0 (Fr v.heap.size w2.heap.size) w2 ⟨1,bo,o1,on.length,o2,o3,od.length,o4,0,none,0,0⟩ (wholeT 0):=by
  rw [← hT];exact ⟨rfl,rfl,rfl,rfl,rfl,rfl,RdL.of_own p1,RdL.of_own p2,⟨none,0,rfl,Nat.le_refl _,by omega,fun _=>rfl,Or.inl rfl⟩⟩
 have hit3:IsIt 0 (Fr v.heap.size w2.heap.size) w3 ⟨1,bo,o1,on.length,o2,o3,od.length,o4,0,none,0,0⟩ (wholeT 0):=hit.agree (fun q hq=>k3.block q hq.2);have HR:Hid (RdN D w3 (.slice a l.length c) l):=H.out.imp (fun _ h=>h) (Agree.of (g.trans (t3.mono (by omega))) HD.out);have V:=vector_any (w:=w3) (gf:=68) (lb:=#[.pointer (some ⟨w2.heap.size,0,none⟩)]) (p:=⟨1,bo,o1,on.length,o2,o3,od.length,o4,0,none,0,0⟩) (tp:=wholeT 0) (Dp:=Fr v.heap.size w2.heap.size) (ts:=l.map wholeT)
  (Gd:=fun W0 pre x W=>pre.length<(l.map wholeT).length∧ItemAt W0.heap.size W x ((l.map wholeT).getD pre.length tr0)) (Sx:=fun _ xs _=>xs.length=(l.map wholeT).length) (Sp:=fun _ _=>True)
  (enters_of Tryz.func68 (by kernel_rfl) rfl)
  (fun W0 hb=>wholes_pays (w:=W0) (w0:=w3) (D:=D) 5 (by omega) hb (Nat.le_refl _) s3 B3 HR.out (fun q hq=>by have:=HD.out q hq;have:=t3.size;omega))
  (fun _ _ _ _ _ h _ _=>h) (fun _ _ _ h=>h) (fun _ _ _ _ h=>h) hit3 (fun q hq=>by have:=hq.2;omega)
 dsimp only at V;clear hit hit3 hT HO p1 p2
 go_wp2_with fail
 refine V.mono ?_;rintro e w4 ⟨z1,m1,u1,z2,m2,u2,rfl,hv,k4⟩;have HV:Hid (ArV 1 (fun g=>Fr v.heap.size w2.heap.size g∨Fr w3.heap.size w4.heap.size g) w4 (.slice z1 m1 u1) (.slice z2 m2 u2) (vecT (wholeT 0) (l.map wholeT))):=hv;have s4:=k4.size;have t4:Below v.heap.size v w4:=t3.trans (k4.mono t3.size);clear hv V;have R3:=R.below t4 s0;have q0:=R3.cell 0 rfl;have q1:=R3.cell 1 rfl;have f0:=R3.frozen 0;have f1:=R3.frozen 1;go_wp2
 have R4:=R3.set2 (.slice z1 m1 u1) (.slice z2 m2 u2);have r0:=R4.cell 0 rfl;have r1:=R4.cell 1 rfl;refine bodyPost_ret (v:=.agg #[.slice z1 m1 u1,.slice z2 m2 u2]) (by simp [results,Tryz.results14,go_sem,r0,r1]) rfl ?_;refine ⟨z1,m1,u1,z2,m2,u2,rfl,?_,Below.set2 (g.trans (t4.mono (by omega))) (by omega) _ _⟩;have st:=t3.size;refine ArV.imp ?_ ?_ 1 1 _ _ _ (Nat.le_refl _) HV.out
 · rintro q (⟨h1,h2⟩ | ⟨h1,h2⟩)
   · exact ⟨by omega,by rw [set1_size,set1_size];omega⟩
   · exact ⟨by omega,by rw [set1_size,set1_size];omega⟩
 · rintro q (⟨h1,h2⟩ | ⟨h1,h2⟩)
   · rw [set1_other (by show ¬ w.heap.size=q;omega),set1_other (by show ¬ w.heap.size=q;omega)]
   · rw [set1_other (by show ¬ w.heap.size=q;omega),set1_other (by show ¬ w.heap.size=q;omega)]
end
section
open Go.RowKit Go.Shelf
attribute [local go_sem] Oper.semAt_some
/-- So many of a list, over and over. -/
def cyc {α:Type} (d:α) (L:List α) (N:Nat):List α:=(List.range N).map (fun i=>L.getD (i % L.length) d)
theorem cyc_len {α:Type} (d:α) (L:List α) (N:Nat):(cyc d L N).length=N:=by simp [cyc]
theorem cyc_get {α:Type} {d:α} {L:List α} {N i:Nat} (h:i<N):(cyc d L N).getD i d=L.getD (i % L.length) d:=by
 rw [List.getD_eq_getElem?_getD];simp [cyc,h]
theorem overI_any {w:World} {a:Option Addr} {n c:Nat} {N:Int}:Calls Tryz.prog 25 #[.slice a n c,.int .i64 N] w fun e w'=>e=.returned (.func (.func 47) #[] #[.pointer (some ⟨w.heap.size+1,0,none⟩),.pointer (some ⟨w.heap.size,0,none⟩)])∧w'=(w.alloc (.cells #[.slice a n c] 22)).alloc (.cells #[.int .i64 N] 3):=by
 go_enter Tryz.func25,Tryz.ntmps25;go_wp2
 go_ret
 exact ⟨rfl,rfl⟩
theorem overI_pays {w:World} {D:Nat→Prop} {a2:Option Addr} {c2:Nat} {L:List IV} {N Bn Bs n₀:Nat} (n:Nat) (hn:2≤n) (hL:0<L.length) (hN:N≤4096) (hn₀:Bn<n₀) (hs₀:Bs<n₀) (hnw:n₀≤w.heap.size) (hBn:BoxA w Bn 3 #[.int .i64 N]) (hBs:BoxA w Bs 22 #[.slice a2 L.length c2]) (hR:RowIV D w (.slice a2 L.length c2) L) (hD:∀ g,D g→g<n₀) :
    Pays Fence.wide n Tryz.prog 47 #[.pointer (some ⟨Bn,0,none⟩),.pointer (some ⟨Bs,0,none⟩)] IV.encs (KeepW n₀) (fun pre x W=>pre++[x] <+: cyc iv0 L N∧Below n₀ w W) (fun xs W=>xs=cyc iv0 L N∧Below n₀ w W) w:=by
 intro l J W hW hJ hY hJ0;have hsW:=hW.size;have hBW:=hBn.below hW hBn.lt;have c0:=hBW.cell 0 rfl;have bd:=RowB.bounds hR;have HR:Hid (RowIV D w (.slice a2 L.length c2) L):=hR;have HD:Hid (∀ g,D g→g<n₀):=hD;have hW0:Below n₀ w W:=hW.mono hnw;have hCL:(cyc iv0 L N).length=N:=cyc_len _ _ _;clear hR hD;refine callsIn_of_wp Tryz.func47 rfl trivial ?_ rfl;simp only [Tryz.ntmps47,List.size_toArray,List.length_cons,List.length_nil,Nat.reduceAdd,Nat.reduceSub,Array.replicate_succ,Array.replicate_zero,List.push_toArray,List.append_toArray,List.nil_append,List.cons_append]
 gi_wp2
 clear c0
 gi_loopw [6] (fun iv wr=>∃ (i:Nat),iv=.int .i64 i∧i≤N∧J ((cyc iv0 L N).take i) wr∧Below n₀ w wr) (fun iv _=>N - (intOf iv).toNat)
 case atStart=>exact ⟨0,rfl,Nat.zero_le _,by simpa using hJ0,hW0⟩
 case round=>
  obtain ⟨i,rfl,hil,hJs,hbr⟩:=hrel;by_cases hlt:i<N
  · obtain ⟨g1,o1,rfl,hg1,hc1⟩:=RowB.ptr HR.out hL
    have hm:i % L.length<L.length:=Nat.mod_lt _ hL;have hc:=(hc1 (i % L.length) hm).agree (D:=fun g=>g<n₀) (fun g hg=>hbr.block g hg) (HD.out g1 hg1);have hx0:(cyc iv0 L N).getD i iv0=L.getD (i % L.length) iv0:=cyc_get hlt;obtain ⟨x,hx⟩:∃ x,L.getD (i % L.length) iv0=x:=⟨_,rfl⟩;rw [hx] at hc hx0;have HX:Hid ((cyc iv0 L N).take i++[x]=(cyc iv0 L N).take (i+1)):=by unfold Hid;rw [← hx0];exact pre_step (by omega)
    obtain ⟨m,hm'⟩:∃ m,i % L.length=m:=⟨_,rfl⟩;rw [hm'] at hc hm;obtain ⟨q,hq⟩:∃ q,L.length=q:=⟨_,rfl⟩;have hmod:((i:Int).tmod (q:Int))=(m:Int):=by rw [← hm',← hq];rfl
    have hne:¬ ((q:Nat):Int)=0:=by omega
    have hne2:(((q:Nat):Int)==0)=false:=by rw [beq_eq_false_iff_ne];omega
    have hne3:¬ q=0:=by omega
    have hm0:(0:Int)≤(m:Int):=by omega
    have hm1:(m:Int)<((q:Nat):Int):=by omega
    obtain ⟨E0,E1,E2,E3,E4,E5⟩:=hc;have sc:=(hBs.below hbr hs₀).cell 0 rfl;rw [hq] at bd;have sc2:wr.cell? ⟨Bs,0,none⟩=some (.slice (some ⟨g1,o1,none⟩) q c2):=by rw [← hq];exact sc
    clear sc;obtain ⟨fn,tmps,assign,body,hy,hRd⟩:=hY ((cyc iv0 L N).take i) x wr.drew (hJ _ wr _ none hJs ⟨rfl,rfl,rfl,Nat.le_refl _,fun _ _ _=>rfl⟩ (fun r e=>by cases e)) ⟨by rw [HX.out];exact List.take_prefix _ _,⟨hbr.os,hbr.tape,hbr.output,hbr.size,hbr.block⟩⟩;dsimp only [IV.encs] at hy;clear hc1 hx hx0 hJs hm' hq
    gi_wp2_with fail
    gi_region_with (refine ⟨fun _=>by omega,hRd.mono ?_⟩;rintro e W4 ⟨rfl,hJ4,hk4⟩)
    all_goals
     have hb4:Below n₀ w W4:=⟨hk4.below.os.trans hbr.os,hk4.below.tape.trans hbr.tape,hk4.below.output.trans hbr.output,Nat.le_trans hbr.size hk4.below.size,fun g hg=>(hk4.below.block g hg).trans (hbr.block g hg)⟩
     gi_wp2
     go_roundw
     case rel=>exact ⟨i+1,by go_num,by omega,by rw [← HX.out];exact hJ4,hb4⟩
     case measure=>simp [intOf];omega
  · obtain rfl:i=N:=by omega
    have HJ:Hid (J (cyc iv0 L i) wr):=by unfold Hid;rw [List.take_of_length_le (by omega)] at hJs;exact hJs
    gi_wp2
    go_end0
    exact ⟨⟨_,rfl⟩,_,⟨rfl,hbr⟩,HJ.out⟩
end
section
open Go.RowKit Go.Shelf
attribute [local go_sem] Oper.semAt_some
def mEncs (x:Int×Int):Array Value:=#[.agg #[.int .i64 x.1,.int .i64 x.2]]
/-- A slice of measures. -/
def RowM (D:Nat→Prop) (W:World) (v:Value) (L:List (Int×Int)):Prop:=RowB D L.length v (fun g o j=>W.cell? ⟨g,o+j*2,none⟩=some (.int .i64 (L.getD j (0,0)).1)∧W.cell? ⟨g,o+j*2+1,none⟩=some (.int .i64 (L.getD j (0,0)).2))
theorem RowM.agree {D:Nat→Prop} {W W':World} {v:Value} {L:List (Int×Int)} (h:RowM D W v L) (hb:Agree D W W'):RowM D W' v L:=
 RowB.imp h (fun _ h=>h) (fun g o j hg _ hc=>⟨(hb.cell hg).trans hc.1,(hb.cell hg).trans hc.2⟩)
theorem overM_any {w:World} {a:Option Addr} {n c:Nat} {N:Int}:Calls Tryz.prog 22 #[.slice a n c,.int .i64 N] w fun e w'=>e=.returned (.func (.func 46) #[] #[.pointer (some ⟨w.heap.size+1,0,none⟩),.pointer (some ⟨w.heap.size,0,none⟩)])∧w'=(w.alloc (.cells #[.slice a n c] 50)).alloc (.cells #[.int .i64 N] 3):=by
 go_enter Tryz.func22,Tryz.ntmps22;go_wp2
 go_ret
 exact ⟨rfl,rfl⟩
theorem overM_pays {w:World} {D:Nat→Prop} {a2:Option Addr} {c2:Nat} {L:List (Int×Int)} {N Bn Bs n₀:Nat} (n:Nat) (hn:2≤n) (hL:0<L.length) (hN:N≤4096) (hn₀:Bn<n₀) (hs₀:Bs<n₀) (hnw:n₀≤w.heap.size) (hBn:BoxA w Bn 3 #[.int .i64 N]) (hBs:BoxA w Bs 50 #[.slice a2 L.length c2]) (hR:RowM D w (.slice a2 L.length c2) L) (hD:∀ g,D g→g<n₀) :
    Pays Fence.wide n Tryz.prog 46 #[.pointer (some ⟨Bn,0,none⟩),.pointer (some ⟨Bs,0,none⟩)] mEncs (KeepW n₀) (fun pre x W=>pre++[x] <+: cyc (0,0) L N∧Below n₀ w W) (fun xs W=>xs=cyc (0,0) L N∧Below n₀ w W) w:=by
 intro l J W hW hJ hY hJ0;have hsW:=hW.size;have hBW:=hBn.below hW hBn.lt;have c0:=hBW.cell 0 rfl;have bd:=RowB.bounds hR;have HR:Hid (RowM D w (.slice a2 L.length c2) L):=hR;have HD:Hid (∀ g,D g→g<n₀):=hD;have hW0:Below n₀ w W:=hW.mono hnw;have hCL:(cyc (0,0) L N).length=N:=cyc_len _ _ _;clear hR hD;refine callsIn_of_wp Tryz.func46 rfl trivial ?_ rfl;simp only [Tryz.ntmps46,List.size_toArray,List.length_cons,List.length_nil,Nat.reduceAdd,Nat.reduceSub,Array.replicate_succ,Array.replicate_zero,List.push_toArray,List.append_toArray,List.nil_append,List.cons_append]
 gi_wp2
 clear c0
 gi_loopw [6] (fun iv wr=>∃ (i:Nat),iv=.int .i64 i∧i≤N∧J ((cyc (0,0) L N).take i) wr∧Below n₀ w wr) (fun iv _=>N - (intOf iv).toNat)
 case atStart=>exact ⟨0,rfl,Nat.zero_le _,by simpa using hJ0,hW0⟩
 case round=>
  obtain ⟨i,rfl,hil,hJs,hbr⟩:=hrel;by_cases hlt:i<N
  · obtain ⟨g1,o1,rfl,hg1,hc1⟩:=RowB.ptr HR.out hL
    have hm:i % L.length<L.length:=Nat.mod_lt _ hL;have hc:=(show _∧_ from ⟨(hbr.cell (p:=⟨g1,o1+(i % L.length)*2,none⟩) (HD.out g1 hg1)).trans (hc1 (i % L.length) hm).1,(hbr.cell (p:=⟨g1,o1+(i % L.length)*2+1,none⟩) (HD.out g1 hg1)).trans (hc1 (i % L.length) hm).2⟩);have hx0:(cyc (0,0) L N).getD i (0,0)=L.getD (i % L.length) (0,0):=cyc_get hlt;obtain ⟨x,hx⟩:∃ x,L.getD (i % L.length) (0,0)=x:=⟨_,rfl⟩;rw [hx] at hc hx0;have HX:Hid ((cyc (0,0) L N).take i++[x]=(cyc (0,0) L N).take (i+1)):=by unfold Hid;rw [← hx0];exact pre_step (by omega)
    obtain ⟨m,hm'⟩:∃ m,i % L.length=m:=⟨_,rfl⟩;rw [hm'] at hc hm;obtain ⟨q,hq⟩:∃ q,L.length=q:=⟨_,rfl⟩;have hmod:((i:Int).tmod (q:Int))=(m:Int):=by rw [← hm',← hq];rfl
    have hne:¬ ((q:Nat):Int)=0:=by omega
    have hne2:(((q:Nat):Int)==0)=false:=by rw [beq_eq_false_iff_ne];omega
    have hne3:¬ q=0:=by omega
    have hm0:(0:Int)≤(m:Int):=by omega
    have hm1:(m:Int)<((q:Nat):Int):=by omega
    obtain ⟨E0,E1⟩:=hc;have sc:=(hBs.below hbr hs₀).cell 0 rfl;rw [hq] at bd;have sc2:wr.cell? ⟨Bs,0,none⟩=some (.slice (some ⟨g1,o1,none⟩) q c2):=by rw [← hq];exact sc
    clear sc;obtain ⟨fn,tmps,assign,body,hy,hRd⟩:=hY ((cyc (0,0) L N).take i) x wr.drew (hJ _ wr _ none hJs ⟨rfl,rfl,rfl,Nat.le_refl _,fun _ _ _=>rfl⟩ (fun r e=>by cases e)) ⟨by rw [HX.out];exact List.take_prefix _ _,⟨hbr.os,hbr.tape,hbr.output,hbr.size,hbr.block⟩⟩;dsimp only [mEncs] at hy;clear hc1 hx hx0 hJs hm' hq
    gi_wp2_with fail
    gi_region_with (refine ⟨fun _=>by omega,hRd.mono ?_⟩;rintro e W4 ⟨rfl,hJ4,hk4⟩)
    all_goals
     have hb4:Below n₀ w W4:=⟨hk4.below.os.trans hbr.os,hk4.below.tape.trans hbr.tape,hk4.below.output.trans hbr.output,Nat.le_trans hbr.size hk4.below.size,fun g hg=>(hk4.below.block g hg).trans (hbr.block g hg)⟩
     gi_wp2
     go_roundw
     case rel=>exact ⟨i+1,by go_num,by omega,by rw [← HX.out];exact hJ4,hb4⟩
     case measure=>simp [intOf];omega
  · obtain rfl:i=N:=by omega
    have HJ:Hid (J (cyc (0,0) L i) wr):=by unfold Hid;rw [List.take_of_length_le (by omega)] at hJs;exact hJs
    gi_wp2
    go_end0
    exact ⟨⟨_,rfl⟩,_,⟨rfl,hbr⟩,HJ.out⟩
end
section
open Go.RowKit Go.Shelf
attribute [local go_sem] Oper.semAt_some
/-- The measure of an array with items of these measures. -/
def togStep (w x:Int×Int):Int×Int:=(max w.1 (1+x.1),w.2+(1+x.2))
def togF (ms:List (Int×Int)):Int×Int:=ms.foldl togStep (1,0)
theorem togF_snoc (ms:List (Int×Int)) (x:Int×Int):togF (ms++[x])=togStep (togF ms) x:=by simp [togF,List.foldl_append]
def inMs (x:Int×Int):Prop:=0≤x.1∧x.1≤16∧0≤x.2∧x.2≤16384
theorem togF_in:∀ (ms:List (Int×Int)) (w:Int×Int),(∀ x∈ms,inMs x)→0≤w.1→w.1≤17→0≤w.2→0≤(ms.foldl togStep w).1∧(ms.foldl togStep w).1≤17∧0≤(ms.foldl togStep w).2∧(ms.foldl togStep w).2≤w.2+16385*ms.length
 | [],w,_,h1,h2,h3=>⟨h1,h2,h3,by simp⟩
 | x :: r,w,h,h1,h2,h3=>by
  obtain ⟨p1,p2,p3,p4⟩:=h x (by simp);have:=togF_in r (togStep w x) (fun y hy=>h y (by simp [hy])) (by unfold togStep;simp only [];omega) (by unfold togStep;simp only [];omega) (by unfold togStep;simp only [];omega);rw [List.foldl_cons];refine ⟨this.1,this.2.1,this.2.2.1,?_⟩;have h4:=this.2.2.2;have e2:(togStep w x).2=w.2+(1+x.2):=rfl;rw [e2] at h4;simp only [List.length_cons];omega
theorem boxM_0 {w:World} {R ty:Nat} {u0 u1:Value} (h:BoxA w R ty #[u0,u1]) (u:Value):BoxA (w.setCell ⟨R,0,none⟩ u) R ty #[u,u1]:=by
 unfold BoxA at h ⊢;simp [World.setCell,Array.getElem?_modify,h]
theorem boxM_1 {w:World} {R ty:Nat} {u0 u1:Value} (h:BoxA w R ty #[u0,u1]) (u:Value):BoxA (w.setCell ⟨R,1,none⟩ u) R ty #[u0,u]:=by
 unfold BoxA at h ⊢;simp [World.setCell,Array.getElem?_modify,h]
theorem together_any {w:World} {gf:Nat} {lb:Array Value} {ms:List (Int×Int)} {Gd:List (Int×Int)→Int×Int→World→Prop} {Sx:List (Int×Int)→World→Prop}
    (eg:∀ args w,(callFunc gf args).run Tryz.prog w=.ok (.enter gf args) w) (hp:Pays Fence.wide 5 Tryz.prog gf lb mEncs (KeepW w.heap.size) Gd Sx w) (hS:OwnFrom w.heap.size Sx) (hms:∀ x∈ms,inMs x) (hml:ms.length≤4096)
    (hGd:∀ pre x W,Gd pre x W→pre++[x] <+: ms) (hSl:∀ xs W,Sx xs W→xs=ms) :
    Calls Tryz.prog 21 #[.func (.func gf) #[] lb] w fun e w'=>e=.returned (.agg #[.int .i64 (togF ms).1,.int .i64 (togF ms).2])∧Below w.heap.size w w':=by
 have g1:=below_alloc w (.cells #[.int .i64 0,.int .i64 0] 55);have g2:=below_alloc (w.alloc (.cells #[.int .i64 0,.int .i64 0] 55)) (.cells #[.int .i64 1,.int .i64 0] 55);have BR:=(boxA_new w #[.int .i64 0,.int .i64 0] 55).below g2 (by simp);have BO:=boxA_new (w.alloc (.cells #[.int .i64 0,.int .i64 0] 55)) #[.int .i64 1,.int .i64 0] 55;rw [World.size_alloc] at BO;have g:Below w.heap.size w _:=g1.trans (g2.mono (by simp));have sW:((w.alloc (.cells #[.int .i64 0,.int .i64 0] 55)).alloc (.cells #[.int .i64 1,.int .i64 0] 55)).heap.size=w.heap.size+1+1:=by simp
 clear g1 g2;refine (callsIn_wide (n:=6)).1 ?_;refine callsIn_of_wp_marks Tryz.func21 rfl trivial ?_ rfl;simp only [Tryz.ntmps21,List.size_toArray,List.length_cons,List.length_nil,Nat.reduceAdd,Nat.reduceSub,Array.replicate_succ,Array.replicate_zero,List.push_toArray,List.append_toArray,List.nil_append,List.cons_append]
 gi_wp2_with fail
 generalize (w.alloc (.cells #[.int .i64 0,.int .i64 0] 55)).alloc (.cells #[.int .i64 1,.int .i64 0] 55)=W0 at *;refine wpIn_range_pays rfl (by omega) (gf:=gf) (lb:=lb) rfl trivial eg hp (fun h h'=>h.trans h') (fun W l o o' hl ho _ hw=>keepW_put (B0:=W0.heap.size) (by omega) W l o o' hl ho hw) g (fun _=>rfl)
  (fun pre W=>BoxA W (w.heap.size+1) 55 #[.int .i64 (togF pre).1,.int .i64 (togF pre).2]∧BoxA W w.heap.size 55 #[.int .i64 0,.int .i64 0]∧Below w.heap.size w W)
  ?hI ⟨BO,BR,g⟩ (fun s A B row h hg hrow=>hS s A B row h hg (fun k e=>⟨by have:=(hrow k e).1;omega,(hrow k e).2⟩))
  (fun pre x a' W=>pre++[x] <+: ms∧∃ Bx,W0.heap.size≤Bx∧BoxA W Bx 55 #[.int .i64 x.1,.int .i64 x.2]∧a'={ tmps:=#[.func (.func gf) #[] lb,undef,.pointer (some ⟨w.heap.size,0,none⟩),.pointer (some ⟨w.heap.size+1,0,none⟩),.pointer (some ⟨Bx,0,none⟩),.agg #[.int .i64 1,.int .i64 0],.func (.func gf) #[] lb,.agg #[.int .i64 x.1,.int .i64 x.2],undef,undef,undef,undef,undef,undef,undef,undef,undef,undef,undef,undef,undef,undef,undef],defers:=[] })
  ?hAx ?assign ?body ?done
 case hI=>
  rintro s A B row ⟨b1,b2,b3⟩ hg hrow;exact ⟨boxA_kept b1 hg (fun k e=>(hrow k e).2),boxA_kept b2 hg (fun k e=>(hrow k e).2),b3.grown hg b3.size (fun k e=>by have:=(hrow k e).1;omega)⟩
 case hAx=>
  rintro pre x a' _ A B row ⟨h1,Bx,h2,h3,h4⟩ hg hrow;exact ⟨h1,Bx,h2,boxA_kept h3 hg (fun k e=>(hrow k e).2),h4⟩
 case assign=>
  rintro l pre x W K ⟨b1,b2,b3⟩ hG hK;dsimp only [mEncs];have kx:=below_alloc W (.cells #[.int .i64 x.1,.int .i64 x.2] 55);have BX:=boxA_new W #[.int .i64 x.1,.int .i64 x.2] 55;have hG2:=hGd pre x W hG;have sb:=b3.size;have lO:=b1.lt;have c1:=b1.below kx b1.lt;have c2:=b2.below kx b2.lt;have c3:=b3.trans (kx.mono sb);have hk1:=(KeepsOthers.alloc W (.cells #[.int .i64 x.1,.int .i64 x.2] 55));have hk2:KeepW w.heap.size W _:=⟨kx.mono sb,hk1.walks⟩;clear b1 b2 b3 hG kx
  gi_wp2
  exact hK _ _ (hk1.from _) hk2 ⟨c1,c2,c3⟩ ⟨hG2,W.heap.size,by omega,BX,rfl⟩
 case body=>
  rintro l pre x a' W ⟨b1,b2,b3⟩ ⟨hG,Bx,hBx,bX,rfl⟩;have hpre:∀ y∈pre,inMs y:=fun y hy=>hms y (hG.subset (by simp [hy]));have hx:inMs x:=hms x (hG.subset (by simp));have hlen:pre.length<ms.length:=(pre_next (d:=(0,0)) hG).1;have hin:=togF_in pre (1,0) hpre (by simp) (by simp) (by simp);have HE:Hid (togF (pre++[x])=togStep (togF pre) x):=togF_snoc pre x;have e0:togF pre=pre.foldl togStep (1,0):=rfl;rw [← e0] at hin;obtain ⟨A,hA⟩:∃ A,(togF pre).1=A:=⟨_,rfl⟩;obtain ⟨B,hB⟩:∃ B,(togF pre).2=B:=⟨_,rfl⟩;rw [hA,hB] at b1 hin;have HS:Hid (togStep (togF pre) x=(max A (1+x.1),B+(1+x.2))):=by unfold Hid togStep;rw [hA,hB]
  obtain ⟨x1,x2⟩:=x;obtain ⟨p1,p2,p3,p4⟩:=hx;simp only [] at p1 p2 p3 p4 bX HS ⊢;simp only [] at hin;obtain ⟨r1,r2,r3,r4⟩:=hin;clear e0 hA hB hpre hG;have m0:=bX.cell 0 rfl;have m1:=bX.cell 1 rfl;have q0:=b1.cell 0 rfl;have q1:=b1.cell 1 rfl;have f0:=b1.frozen 0;have f1:=b1.frozen 1;have hne:w.heap.size+1≠Bx:=by omega
  have hne2:Bx≠w.heap.size+1:=by omega
  have Z1:=boxM_0 b1 (.int .i64 (max A (1+x1)));have z1:=Z1.cell 1 rfl;have zf:=Z1.frozen 1;have ZX:=boxA_o bX (p:=⟨w.heap.size+1,0,none⟩) hne (.int .i64 (max A (1+x1)));have zx:=ZX.cell 1 rfl;have sb:=b3.size;have hk:=(KeepsOthers.setCell W ⟨w.heap.size+1,0,none⟩ (.int .i64 (max A (1+x1)))).trans (KeepsOthers.setCell _ ⟨w.heap.size+1,1,none⟩ (.int .i64 (B+(1+x2))))
  gi_wp2
  refine ⟨hk.from _,⟨((Below.refl _ W).setCell (p:=⟨w.heap.size+1,0,none⟩) (show w.heap.size≤w.heap.size+1 by omega) _).setCell (p:=⟨w.heap.size+1,1,none⟩) (show w.heap.size≤w.heap.size+1 by omega) _,hk.walks⟩,?_,?_,?_⟩
  · rw [HE.out,HS.out];exact boxM_1 Z1 _
  · exact boxA_o (boxA_o b2 (p:=⟨w.heap.size+1,0,none⟩) (show w.heap.size+1≠w.heap.size by omega) _) (p:=⟨w.heap.size+1,1,none⟩) (show w.heap.size+1≠w.heap.size by omega) _
  · exact (b3.setCell (p:=⟨w.heap.size+1,0,none⟩) (show w.heap.size≤w.heap.size+1 by omega) _).setCell (p:=⟨w.heap.size+1,1,none⟩) (show w.heap.size≤w.heap.size+1 by omega) _
 case done=>
  rintro D xs W hD hxs ⟨b1,b2,b3⟩ hK;rw [hSl xs W hxs] at b1;have HT:Hid (togF ms=togF ms):=rfl;obtain ⟨A,hA⟩:∃ A,(togF ms).1=A:=⟨_,rfl⟩;obtain ⟨B,hB⟩:∃ B,(togF ms).2=B:=⟨_,rfl⟩;rw [hA,hB] at b1;have HA:Hid ((togF ms).1=A):=hA;have HB:Hid ((togF ms).2=B):=hB;clear hA hB;have q0:=b1.cell 0 rfl;have q1:=b1.cell 1 rfl;have p0:=b2.cell 0 rfl;have p1:=b2.cell 1 rfl;have f0:=b2.frozen 0;have f1:=b2.frozen 1;have sb:=b3.size
  gi_wp2
  have hDW:D<W.heap.size:=(Array.getElem?_eq_some_iff.1 hK).1;have hK2:=((KeepsOthers.setCell W ⟨w.heap.size,0,none⟩ (.int .i64 A)).trans (KeepsOthers.setCell _ ⟨w.heap.size,1,none⟩ (.int .i64 B))).same D _ hK rfl;refine ⟨by simp,.inl ⟨_,_,rfl,run_takeDeferred hK2,?_⟩⟩;have hgp:=grownBy_putObj' ((W.setCell ⟨w.heap.size,0,none⟩ (.int .i64 A)).setCell ⟨w.heap.size,1,none⟩ (.int .i64 B)) D (.deferred none);have hX:=boxA_grown (boxM_1 (boxM_0 b2 (.int .i64 A)) (.int .i64 B)) hgp (fun e=>by cases e;omega);have x0:=hX.cell 0 rfl;have x1:=hX.cell 1 rfl;refine ⟨.agg #[.int .i64 A,.int .i64 B],by simp [results,Tryz.results21,go_sem,x0,x1],by rw [HA.out,HB.out],?_⟩;exact ((b3.setCell (p:=⟨w.heap.size,0,none⟩) (Nat.le_refl _) _).setCell (p:=⟨w.heap.size,1,none⟩) (Nat.le_refl _) _).grown hgp (by simp [World.setCell];omega) (fun k e=>by cases e;omega)
end
section
open Go.RowKit
/-- The measures of items. -/
noncomputable def msOf (l:List Tr):List (Int×Int):=l.map (fun t=>(measI (measF 16) t).getD (0,0))
theorem msOf_len (l:List Tr):(msOf l).length=l.length:=by simp [msOf]
theorem msOf_get {l:List Tr} {j:Nat} (h:j<l.length):(msOf l).getD j (0,0)=(measI (measF 16) (l.getD j tr0)).getD (0,0):=by
 unfold msOf;rw [List.getD_eq_getElem?_getD,List.getElem?_map,List.getElem?_eq_getElem h,List.getD_eq_getElem?_getD (l:=l),List.getElem?_eq_getElem h];rfl
theorem msOf_in (l:List Tr):∀ x∈msOf l,inMs x:=by
 intro x hx;obtain ⟨t,_,rfl⟩:=List.mem_map.1 hx
 cases hm:measI (measF 16) t with
 | none=>simp [inMs]
 | some p=>
  have:=measI_in (measF_in 16) t p hm;exact this
def mCells (p:Int×Int):List Value:=[.int .i64 p.1,.int .i64 p.2]
def mRow (l:List (Int×Int)):List Value:=l.flatMap mCells
theorem mRow_len:∀ l:List (Int×Int),(mRow l).length=l.length*2
 | []=>rfl
 | p :: r=>by
  have:=mRow_len r;unfold mRow at *;rw [List.flatMap_cons,List.length_append,this,List.length_cons];simp [mCells];omega
theorem mRow_get:∀ (l:List (Int×Int)) (j:Nat),j<l.length→(mRow l)[j*2]? = some (.int .i64 (l.getD j (0,0)).1)∧(mRow l)[j*2+1]? = some (.int .i64 (l.getD j (0,0)).2)
 | [],j,h=>by simp at h
 | p :: r,0,_=>⟨rfl,rfl⟩
 | p :: r,j+1,h=>by
  have:=mRow_get r j (by simp at h;omega);unfold mRow at *;rw [List.flatMap_cons,List.getElem?_append_right (by simp [mCells];omega),List.getElem?_append_right (by simp [mCells];omega)];simp only [mCells,List.length_cons,List.length_nil,List.getD_cons_succ];rw [show (j+1)*2 - (0+1+1)=j*2 by omega,show (j+1)*2+1 - (0+1+1)=j*2+1 by omega];exact this
theorem mRow_snoc (l:List (Int×Int)) (p:Int×Int):mRow (l++[p])=mRow l++[.int .i64 p.1,.int .i64 p.2]:=by simp [mRow,mCells]
theorem rowM_of {W:World} {Z:Nat} {v:Value} {l:List (Int×Int)} (h:W.ownsRow Z 55 2 v l.length (mRow l)):RowM (Fr Z W.heap.size) W v l:=by
 have hrow:=h;obtain ⟨_,h | ⟨g,cap,cur,hv,hg,hh,h2,h3,_,_⟩⟩:=h
 · obtain ⟨rfl,e2⟩:=h
   exact ⟨none,0,by rw [e2],by omega,by omega,fun _=>rfl,Or.inl e2⟩
 · subst hv
   refine ⟨_,cap,rfl,h2,by unfold maxLen at h3;omega,(fun h=>by cases h),Or.inr ⟨g,0,rfl,⟨hg,lt_of_block hh⟩,fun j hj => ?_⟩⟩;have hg:=mRow_get l j hj;have hl:=mRow_len l;have e1:=hrow.cellAt (j*2) (by omega);have e2:=hrow.cellAt (j*2+1) (by omega);rw [hg.1] at e1;rw [hg.2] at e2;show W.cell? ⟨g,0+j*2,none⟩=_∧W.cell? ⟨g,0+j*2+1,none⟩=_;rw [Nat.zero_add];exact ⟨e1,e2⟩
theorem info_meas:(Tryz.prog.info? 55).map (fun i=>(i.zero,i.size,i.bytes))=some (some (.agg #[.int .i64 0,.int .i64 0]),2,16):=by kernel_rfl
theorem measItems_any {w:World} {f:Nat} {D:Nat→Prop} {a2:Option Addr} {c2:Nat} {l:List Tr} (hR:RowB D l.length (.slice a2 l.length c2) (fun g o j=>ItC (ArV f D w) D w g (o+j*6) (l.getD j tr0))) (hD:∀ g,D g→g<w.heap.size) (hs:l.length*96≤140737488355328) :
    Calls Tryz.prog 18 #[.slice a2 l.length c2] w fun e w'=>(((∀ t∈l,(measI (measF 16) t).isSome=true)∧∃ a c,e=.returned (.tuple #[.slice a l.length c,.bool true])∧RowM (Fr w.heap.size w'.heap.size) w' (.slice a l.length c) (msOf l))∨((¬ ∀ t∈l,(measI (measF 16) t).isSome=true)∧e=.returned (.tuple #[.slice none 0 0,.bool false])))∧Below w.heap.size w w':=by
 have HR:Hid (RowB D l.length (.slice a2 l.length c2) (fun g o j=>ItC (ArV f D w) D w g (o+j*6) (l.getD j tr0))):=hR;have HD:Hid (∀ g,D g→g<w.heap.size):=hD;have bd:=RowB.bounds hR;have HM:Hid (MeasOK 16):=meas_all 16 (by omega);obtain ⟨i0,hi,hz0,hz1,hz2⟩:=info_parts info_meas;clear hR hD;go_enter Tryz.func18,Tryz.ntmps18
 go_wp2_with fail
 go_loopw [4,11] (fun ov iv wr=>∃ (i:Nat) (a:Option Addr) (c:Nat),iv=.int .i64 i∧ov=.slice a i c∧i≤l.length∧wr.ownsRow w.heap.size 55 2 (.slice a i c) i (mRow ((msOf l).take i))∧Hid (∀ j,j<i→(measI (measF 16) (l.getD j tr0)).isSome=true)∧Below w.heap.size w wr) (fun _ iv _=>l.length - (intOf iv).toNat)
 case atStart=>exact ⟨0,none,0,rfl,rfl,Nat.zero_le _,World.ownsRow_nil _ _ _ _,fun j hj=>by omega,Below.refl _ _⟩
 case round=>
  obtain ⟨i,a,c,rfl,rfl,hil,ho,HP,hbr⟩:=hrel;have sb:=hbr.size;by_cases hlt:i<l.length
  · obtain ⟨g1,o1,rfl,hg1,hc1⟩:=RowB.ptr HR.out (by omega)
    obtain ⟨b1,d1,b2,d2,b3,d3,⟨e0,e1,e2,e3,e4,e5⟩,hv⟩:=hc1 i hlt;have lg:=HD.out g1 hg1;have E0:=(hbr.cell (p:=⟨g1,o1+i*6,none⟩) lg).trans e0;have E1:=(hbr.cell (p:=⟨g1,o1+i*6+1,none⟩) lg).trans e1;have E2:=(hbr.cell (p:=⟨g1,o1+i*6+2,none⟩) lg).trans e2;have E3:=(hbr.cell (p:=⟨g1,o1+i*6+3,none⟩) lg).trans e3;have E4:=(hbr.cell (p:=⟨g1,o1+i*6+4,none⟩) lg).trans e4;have E5:=(hbr.cell (p:=⟨g1,o1+i*6+5,none⟩) lg).trans e5;have HX:Hid ((msOf l).take i++[(measI (measF 16) (l.getD i tr0)).getD (0,0)]=(msOf l).take (i+1)):=by unfold Hid;rw [← msOf_get hlt];exact pre_step (by rw [msOf_len];exact hlt)
    have hmem:l.getD i tr0∈l:=getD_memI hlt;obtain ⟨t,ht⟩:∃ t,l.getD i tr0=t:=⟨_,rfl⟩;have HT:Hid (l.getD i tr0=t):=ht;rw [ht] at E0 E1 E2 E3 E4 E5 hv hmem;have HX2:Hid ((msOf l).take i++[(measI (measF 16) t).getD (0,0)]=(msOf l).take (i+1)):=by unfold Hid;rw [← ht];exact HX.out
    have HV:Hid (ItV (ArV f D w) D w b1 d1 b2 d2 b3 d3 t):=hv;have HMm:Hid (t∈l):=hmem;clear hc1 e0 e1 e2 e3 e4 e5 hv ht hmem HX;have kx:=below_alloc wr (.cells #[.int .u8 t.k,.bool t.b,.slice b1 t.ns.length d1,.slice b2 t.ds.length d2,.int .i32 t.c,.slice b3 t.kids.length d3] 68);have BX:=boxA_new wr #[.int .u8 t.k,.bool t.b,.slice b1 t.ns.length d1,.slice b2 t.ds.length d2,.int .i32 t.c,.slice b3 t.kids.length d3] 68;have ho1:=ho.alloc (.cells #[.int .u8 t.k,.bool t.b,.slice b1 t.ns.length d1,.slice b2 t.ds.length d2,.int .i32 t.c,.slice b3 t.kids.length d3] 68);have hb1:=hbr.trans (kx.mono sb);have m0:=BX.cell 0 rfl;have m1:=BX.cell 1 rfl;have m2:=BX.cell 2 rfl;have m3:=BX.cell 3 rfl;have m4:=BX.cell 4 rfl;have m5:=BX.cell 5 rfl;have C:=measuredItem_all (L:=16) HM.out (HV.out.agree (Agree.of hb1 HD.out)) (fun g hg=>by have:=HD.out g hg;have:=hb1.size;omega);rw [show ((16:Nat):Int)=16 from rfl] at C;clear ho hbr
    go_wp2_with fail
    refine C.mono ?_;rintro e w2 ⟨rfl,k2⟩;clear C m0 m1 m2 m3 m4 m5 BX;have ho2:=row_below ho1 k2 (Nat.le_refl _);have hb2:=hb1.trans (k2.mono hb1.size);have hs2:=k2.size;clear ho1 hb1 kx;unfold mEnd
    cases hm:measI (measF 16) t with
    | none=>
     have HN:Hid (¬ ∀ t∈l,(measI (measF 16) t).isSome=true):=fun h=>by have:=h t HMm.out;rw [hm] at this;cases this
     clear hm;simp only [Option.getD_none,Option.isSome_none];have km:=below_alloc w2 (.cells #[.int .i64 0,.int .i64 0] 55);go_wp2
     go_ret2
     exact ⟨Or.inr ⟨HN.out,rfl⟩,(by first | exact hb2 | exact hb2.trans (km.mono hb2.size))⟩
    | some p=>
     have HSm:Hid ((measI (measF 16) t).isSome=true):=by unfold Hid;rw [hm];rfl
     have HX3:Hid ((msOf l).take i++[p]=(msOf l).take (i+1)):=by unfold Hid;rw [← HX2.out,hm];rfl
     clear hm HX2;simp only [Option.getD_some,Option.isSome_some];obtain ⟨p1,p2⟩:=p;simp only [];have km:=below_alloc w2 (.cells #[.int .i64 p1,.int .i64 p2] 55);have BM:=boxA_new w2 #[.int .i64 p1,.int .i64 p2] 55;have n0:=BM.cell 0 rfl;have n1:=BM.cell 1 rfl;have ho3:=ho2.alloc (.cells #[.int .i64 p1,.int .i64 p2] 55);have hb3:=hb2.trans (km.mono hb2.size);have cn:∀ j u,([.int .i64 p1,.int .i64 p2]:List Value)[j]? = some u→((w2.alloc (.cells #[.int .i64 p1,.int .i64 p2] 55)).alloc (.cells #[.int .i64 p1,.int .i64 p2] 55)).cell? ((⟨w2.heap.size+1,0,none⟩:Addr).add j)=some u:=by
      have:=cells_new (w2.alloc (.cells #[.int .i64 p1,.int .i64 p2] 55)) #[.int .i64 p1,.int .i64 p2] 55;rw [World.size_alloc] at this;exact this
     have sz2:=hb2.size;have HB3:Hid (Below w.heap.size w (w2.alloc (.cells #[.int .i64 p1,.int .i64 p2] 55))):=hb3;clear km BM ho2 hb2 hb3
     go_wp2_with (at_builtin;refine wpList_append_own _ rfl _ _ 50 rfl w.heap.size 55 i0 (.agg #[.int .i64 0,.int .i64 0]) 2 16 Tryz.underlying50 hi hz0 hz1 hz2 rfl (by decide) _ i (mRow ((msOf l).take i)) rfl (ho3.alloc _) ⟨w2.heap.size+1,0,none⟩ 1 1 [.int .i64 p1,.int .i64 p2] rfl rfl cn (by intro u hu;simp at hu;rcases hu with rfl | rfl <;> rfl) (by unfold maxLen;omega) (by omega) (by simp;omega) ?_)
     intro v' w4 hown hgr _;obtain ⟨a4,c4,rfl⟩:=row_form3 hown;have hb4:Below w.heap.size w w4:=(HB3.out.trans ((below_alloc _ (.cells #[.int .i64 p1,.int .i64 p2] 55)).mono (by simp;omega))).grown hgr (by simp;omega) (fun k e=>(row_own ho3 k e).1);have HO4:Hid (w4.ownsRow w.heap.size 55 2 (.slice a4 (i+1) c4) (i+1) (mRow ((msOf l).take (i+1)))):=by
      unfold Hid;rw [← HX3.out,mRow_snoc];exact hown
     have HP4:Hid (∀ j,j<i+1→(measI (measF 16) (l.getD j tr0)).isSome=true):=fun j hj=>by
      by_cases h:j<i
      · exact HP.out j h
      · obtain rfl:j=i:=by omega
        rw [HT.out];exact HSm.out
     clear hown hgr cn n0 n1 ho3;go_wp2
     go_roundw
     case rel=>exact ⟨i+1,a4,c4,by go_num,rfl,by omega,HO4.out,HP4.out,hb4⟩
     case measure=>simp [intOf];omega
  · obtain rfl:i=l.length:=by omega
    have HA:Hid (∀ t∈l,(measI (measF 16) t).isSome=true):=fun t ht=>by
     obtain ⟨j,hj,rfl⟩:=List.mem_iff_getElem.1 ht;have:=HP.out j hj;rw [List.getD_eq_getElem?_getD,List.getElem?_eq_getElem hj] at this;exact this
    have HO:Hid (RowM (Fr w.heap.size wr.heap.size) wr (.slice a l.length c) (msOf l)):=by
     rw [List.take_of_length_le (by rw [msOf_len];exact Nat.le_refl _)] at ho;have:=rowM_of (l:=msOf l) (by rw [msOf_len];exact ho);exact this
    clear ho HP;go_wp2
    go_ret2
    exact ⟨Or.inl ⟨HA.out,a,c,rfl,HO.out⟩,hbr⟩
section
variable {w:World} {f:Nat} {D:Nat→Prop} {a2:Option Addr} {c2 N Bn Bs:Nat} {l l':List Tr}
theorem eachOverC (hB1:BoxA w Bn 3 #[.int .i64 N]) (hB2:BoxA w Bs 22 #[.slice a2 l.length c2]) (hR:RowB D l.length (.slice a2 l.length c2) (fun g o j=>ItC (ArV f D w) D w g (o+j*6) (l.getD j tr0))) (hD:∀ g,D g→g<w.heap.size) (hL:0<l.length) (hN:N≤4096) (hl:l'.length=l.length) (hwk:WorkC f D l l') :
    Calls Tryz.prog 24 #[.func (.func 19) #[] #[],.func (.func 47) #[] #[.pointer (some ⟨Bn,0,none⟩),.pointer (some ⟨Bs,0,none⟩)]] w fun e w'=>∃ a c,e=.returned (.slice a N c)∧RowB (Fr w.heap.size w'.heap.size) N (.slice a N c) (fun g o j=>ItC (ArV f (Fr w.heap.size w'.heap.size) w') (Fr w.heap.size w'.heap.size) w' g (o+j*6) ((cyc tr0 l' N).getD j tr0))∧Below w.heap.size w w':=by
 obtain ⟨L,hLn,hRL,hI⟩:=row_iv hR;have hcl:(cyc tr0 l' N).length=N:=cyc_len _ _ _;have hp:=overI_pays (w:=w) (D:=D) (a2:=a2) (c2:=c2) (L:=L) (N:=N) (Bn:=Bn) (Bs:=Bs) (n₀:=w.heap.size) 5 (by omega) (by omega) hN hB1.lt hB2.lt (Nat.le_refl _) hB1 (by rw [hLn];exact hB2) (by rw [← hLn] at hRL;exact hRL) hD;refine (eachC_any (f:=f) (ts:=cyc tr0 l' N) (enters_of Tryz.func47 (by kernel_rfl) rfl) hp ?_ ?_ ?_ ?_ (by omega) ?_).mono ?_
 · rintro s A B row ⟨h1,h2⟩ hg hrow
   exact ⟨h1,h2.grown hg h2.size (fun k e=>(hrow k e).1)⟩
 · rintro pre x _ A B row ⟨h1,h2⟩ hg hrow
   exact ⟨h1,h2.grown hg h2.size (fun k e=>(hrow k e).1)⟩
 · rintro pre x W ⟨h1,_⟩
   have:=(pre_next (d:=iv0) h1).1;rw [cyc_len] at this ⊢;exact this
 · rintro xs W ⟨h1,_⟩
   rw [h1,cyc_len,cyc_len]
 · rintro pre x W ⟨h1,h2⟩
   obtain ⟨h3,h4⟩:=pre_next (d:=iv0) h1;rw [cyc_len] at h3;rw [cyc_get h3] at h4;rw [cyc_get h3,hl];rw [hLn] at h4;have hm:pre.length % l.length<l.length:=Nat.mod_lt _ hL;have hi:=(hI (pre.length % l.length) hm).agree (Agree.of h2 hD);rw [← h4] at hi;exact hwk (pre.length % l.length) x W hm hi (fun g hg=>Nat.lt_of_lt_of_le (hD g hg) h2.size)
 · rintro e w' ⟨a,c,rfl,h1,h2⟩
   rw [hcl] at h1;exact ⟨a,c,by rw [hcl],h1,h2⟩
end
theorem cyc_mem {α:Type} {d:α} {L:List α} {N:Nat} (h:0<L.length):∀ x∈cyc d L N,x∈L:=by
 intro x hx;obtain ⟨i,_,rfl⟩:=List.mem_map.1 hx;have hm:i % L.length<L.length:=Nat.mod_lt _ h;rw [List.getD_eq_getElem?_getD,List.getElem?_eq_getElem hm];exact List.getElem_mem hm
/-- Items that are copied. -/
theorem workC {f:Nat} {D:Nat→Prop} {l:List Tr} {L:Nat} (h:∀ t∈l,(measI (measF L) t).isSome=true):WorkC f D l l:=fun j x W hj hx hD=>
 copyOf_all f L D W x _ hD hx (h _ (getD_memI hj))
section
variable {w:World} {f:Nat} {D:Nat→Prop} {x1 a2:Option Addr} {y1 c2 N:Nat} {sh:List Int} {l:List Tr}
theorem make_ok (hsh:RdN D w (.slice x1 sh.length y1) sh) (hR:RowB D l.length (.slice a2 l.length c2) (fun g o j=>ItC (ArV f D w) D w g (o+j*6) (l.getD j tr0))) (hD:∀ g,D g→g<w.heap.size) (hL:0<l.length) (hs:l.length*96≤140737488355328)
    (hE:(sizeF sh).2=0) (hN:(sizeF sh).1=(N:Int)) (hN1:1≤N) (hall:∀ t∈l,(measI (measF 16) t).isSome=true) (hdp:(togF (cyc (0,0) (msOf l) N)).1≤16) (hcl:(togF (cyc (0,0) (msOf l) N)).2≤16384) :
    Calls Tryz.prog 8 #[.slice x1 sh.length y1,.slice a2 l.length c2] w fun e w'=>∃ z1 u1 z2 u2,e=.returned (.tuple #[.agg #[.slice z1 sh.length u1,.slice z2 N u2],.int .i64 0])∧ArV (f+1) (Fr w.heap.size w'.heap.size) w' (.slice z1 sh.length u1) (.slice z2 N u2) (arrT sh (cyc tr0 l N))∧Below w.heap.size w w':=by
 have hin:=sizeF_in sh;have hN4:N≤4096:=by omega
 have R:=boxA_new w #[.slice none 0 0,.slice none 0 0] 25;have g:=below_alloc w (.cells #[.slice none 0 0,.slice none 0 0] 25);have s0:w.heap.size<(w.alloc (.cells #[.slice none 0 0,.slice none 0 0] 25)).heap.size:=by simp
 have HSh:Hid (RdN D w (.slice x1 sh.length y1) sh):=hsh;have HR:Hid (RowB D l.length (.slice a2 l.length c2) (fun g o j=>ItC (ArV f D w) D w g (o+j*6) (l.getD j tr0))):=hR;have HD:Hid (∀ g,D g→g<w.heap.size):=hD;have HAll:Hid (∀ t∈l,(measI (measF 16) t).isSome=true):=hall;have HL:Hid (0<l.length):=hL;have hrk:=size_rank hE;have HRk:Hid (sh.length≤8):=hrk;have hml:((msOf l).length)=l.length:=msOf_len l;obtain ⟨dp,hdpe⟩:∃ dp,(togF (cyc (0,0) (msOf l) N)).1=dp:=⟨_,rfl⟩;obtain ⟨cl,hcle⟩:∃ cl,(togF (cyc (0,0) (msOf l) N)).2=cl:=⟨_,rfl⟩;have HDp:Hid ((togF (cyc (0,0) (msOf l) N)).1=dp):=hdpe;have HCl:Hid ((togF (cyc (0,0) (msOf l) N)).2=cl):=hcle;rw [hdpe] at hdp;rw [hcle] at hcl;have hg1:¬ dp > 16:=by omega
 have hg2:¬ cl > 16384:=by omega
 have hg3:¬ (16:Int)<dp:=by omega
 have hg4:¬ (16384:Int)<cl:=by omega
 have hRw:∀ {w':World},Below w.heap.size w w'→RowB D l.length (.slice a2 l.length c2) (fun g o j=>ItC (ArV f D w') D w' g (o+j*6) (l.getD j tr0)):=fun k=>RowB.imp HR.out (fun _ h=>h) (fun g' o j hg hj hc=>hc.imp hg (fun _ h=>h) (Agree.of k HD.out) (fun _ _ _ h=>h.agree (Agree.of k HD.out)));have HRw:Hid (∀ {w':World},Below w.heap.size w w'→RowB D l.length (.slice a2 l.length c2) (fun g o j=>ItC (ArV f D w') D w' g (o+j*6) (l.getD j tr0))):=hRw;have HNe:Hid (sizeF sh=((N:Int),0)):=by unfold Hid;exact Prod.ext hN hE
 obtain ⟨ln,hln⟩:∃ ln,l.length=ln:=⟨_,rfl⟩;have HLn:Hid (l.length=ln):=hln;have hl0:(((ln:Nat):Int)==0)=false:=by rw [beq_eq_false_iff_ne];omega
 have hn0:(((N:Nat):Int)==0)=false:=by rw [beq_eq_false_iff_ne];omega
 have hs2:ln*96≤140737488355328:=by omega
 have HS1:Hid (l.length*96≤140737488355328):=hs;clear hsh hR hD hall hE hN hRw hL hrk hml hdpe hcle hs;rw [hln];clear hln;go_enter Tryz.func8,Tryz.ntmps8
 go_wp2_with fail
 generalize hA:w.alloc (.cells #[.slice none 0 0,.slice none 0 0] 25)=v at *;clear hA;refine (arrSize_any (HSh.out.imp (fun _ h=>h) (Agree.of g HD.out)) (fun g' hg=>by have:=HD.out g' hg;omega)).mono ?_;rintro e w1 ⟨rfl,hw⟩;obtain rfl:=hw.symm;rw [HNe.out];simp only [];have C1:=measItems_any (HRw.out g) (fun g' hg=>by have:=HD.out g' hg;omega) HS1.out;rw [HLn.out] at C1
 go_wp2_with fail
 refine C1.mono ?_;rintro e w2 ⟨hcase,k2⟩;clear C1;rcases hcase with ⟨_,a3,c3,rfl,hM⟩ | ⟨hno,_⟩
 case inr=>exact absurd HAll.out hno
 have HM:Hid (RowM (Fr v.heap.size w2.heap.size) w2 (.slice a3 ln c3) (msOf l)):=hM;clear hM;have s2:=k2.size;have gw2:Below w.heap.size w w2:=g.trans (k2.mono (by omega))
 go_wp2_with fail
 refine overM_any.mono ?_;rintro e w3 ⟨rfl,hw3⟩;have B1:=(boxA_new w2 #[.slice a3 ln c3] 50).below (below_alloc (w2.alloc (.cells #[.slice a3 ln c3] 50)) (.cells #[.int .i64 N] 3)) (by simp);have B2:=boxA_new (w2.alloc (.cells #[.slice a3 ln c3] 50)) #[.int .i64 N] 3;rw [World.size_alloc] at B2;have k3:Below w2.heap.size w2 w3:=by rw [hw3];exact (below_alloc w2 _).trans ((below_alloc _ _).mono (by simp))
 have sz3:w3.heap.size=w2.heap.size+1+1:=by rw [hw3];simp
 rw [← hw3] at B1 B2;clear hw3;have gw3:Below w.heap.size w w3:=gw2.trans (k3.mono (by omega));have C2:=together_any (w:=w3) (gf:=46) (lb:=#[.pointer (some ⟨w2.heap.size+1,0,none⟩),.pointer (some ⟨w2.heap.size,0,none⟩)]) (ms:=cyc (0,0) (msOf l) N)
  (Gd:=fun pre x W=>pre++[x] <+: cyc (0,0) (msOf l) N∧Below w3.heap.size w3 W) (Sx:=fun xs W=>xs=cyc (0,0) (msOf l) N∧Below w3.heap.size w3 W)
  (enters_of Tryz.func46 (by kernel_rfl) rfl)
  (overM_pays (w:=w3) (D:=Fr v.heap.size w2.heap.size) (a2:=a3) (c2:=c3) (L:=msOf l) (N:=N) (n₀:=w3.heap.size) 5 (by omega) (by rw [msOf_len];exact HL.out) hN4 (by omega) (by omega) (Nat.le_refl _) B2 (by rw [msOf_len,HLn.out];exact B1) (by rw [msOf_len,HLn.out];exact HM.out.agree (fun q hq=>k3.block q hq.2)) (fun q hq=>by have:=hq.2;omega))
  (fun s A B row h hg hrow=>⟨h.1,h.2.grown hg h.2.size (fun k e=>(hrow k e).1)⟩)
  (fun x hx=>msOf_in l x (cyc_mem (by rw [msOf_len];exact HL.out) x hx)) (by rw [cyc_len];exact hN4) (fun _ _ _ h=>h.1) (fun _ _ h=>h.1)
 rw [HDp.out,HCl.out] at C2
 go_wp2_with fail
 refine C2.mono ?_;rintro e w4 ⟨rfl,k4⟩;clear C2 B1 B2;have s4:=k4.size;have gw4:Below w.heap.size w w4:=gw3.trans (k4.mono (by have:=gw3.size;omega));have BM:=boxA_new w4 #[.int .i64 dp,.int .i64 cl] 55;have kM:=below_alloc w4 (.cells #[.int .i64 dp,.int .i64 cl] 55);have n0:=BM.cell 0 rfl;have n1:=BM.cell 1 rfl;have gw5:Below w.heap.size w (w4.alloc (.cells #[.int .i64 dp,.int .i64 cl] 55)):=gw4.trans (kM.mono (by have:=gw4.size;omega));have sz5:(w4.alloc (.cells #[.int .i64 dp,.int .i64 cl] 55)).heap.size=w4.heap.size+1:=by simp
 have C3:=copyInts_any (HSh.out.imp (fun _ h=>h) (Agree.of gw5 HD.out)) (by have:=HRk.out;omega)
 go_wp2_with fail
 refine C3.mono ?_;rintro e w6 ⟨z1,u1,rfl,hn,k6⟩;clear C3 n0 n1 BM;have HNN:Hid (RdN (Fr (w4.alloc (.cells #[.int .i64 dp,.int .i64 cl] 55)).heap.size w6.heap.size) w6 (.slice z1 sh.length u1) sh):=hn;clear hn;have s6:=k6.size;have gw6:Below w.heap.size w w6:=gw5.trans (k6.mono (by have:=gw5.size;omega));generalize hA5:w4.alloc (.cells #[.int .i64 dp,.int .i64 cl] 55)=w5 at *;clear hA5
 go_wp2_with fail
 refine overI_any.mono ?_;rintro e w7 ⟨rfl,hw7⟩;have B1:=(boxA_new w6 #[.slice a2 ln c2] 22).below (below_alloc (w6.alloc (.cells #[.slice a2 ln c2] 22)) (.cells #[.int .i64 N] 3)) (by simp);have B2:=boxA_new (w6.alloc (.cells #[.slice a2 ln c2] 22)) #[.int .i64 N] 3;rw [World.size_alloc] at B2;have k7:Below w6.heap.size w6 w7:=by rw [hw7];exact (below_alloc w6 _).trans ((below_alloc _ _).mono (by simp))
 have sz7:w7.heap.size=w6.heap.size+1+1:=by rw [hw7];simp
 rw [← hw7] at B1 B2;clear hw7;have gw7:Below w.heap.size w w7:=gw6.trans (k7.mono (by have:=gw6.size;omega));have C4:=eachOverC (f:=f) (D:=D) (l:=l) (l':=l) (N:=N) B2 (by rw [HLn.out];exact B1) (HRw.out gw7) (fun q hq=>by have:=HD.out q hq;have:=gw7.size;omega) HL.out hN4 rfl (workC HAll.out)
 go_wp2_with fail
 refine C4.mono ?_;rintro e w8 ⟨z2,u2,rfl,hr,k8⟩;clear C4 B1 B2;have s8:=k8.size;have HRR:Hid (RowB (Fr w7.heap.size w8.heap.size) N (.slice z2 N u2) (fun g o j=>ItC (ArV f (Fr w7.heap.size w8.heap.size) w8) (Fr w7.heap.size w8.heap.size) w8 g (o+j*6) ((cyc tr0 l N).getD j tr0))):=hr;clear hr;have gw8:Below w.heap.size w w8:=gw7.trans (k8.mono (by have:=gw7.size;omega));have gv8:Below v.heap.size v w8:=(((((k2.trans (k3.mono s2)).trans (k4.mono (by omega))).trans (kM.mono (by omega))).trans (k6.mono (by omega))).trans (k7.mono (by omega))).trans (k8.mono (by omega));have R3:=R.below gv8 s0;have q0:=R3.cell 0 rfl;have q1:=R3.cell 1 rfl;have f0:=R3.frozen 0;have f1:=R3.frozen 1;go_wp2
 have R4:=R3.set2 (.slice z1 sh.length u1) (.slice z2 N u2);have r0:=R4.cell 0 rfl;have r1:=R4.cell 1 rfl;refine bodyPost_ret (v:=.tuple #[.agg #[.slice z1 sh.length u1,.slice z2 N u2],.int .i64 0]) (by simp [results,Tryz.results8,go_sem,r0,r1]) rfl ?_;have gs5:=gw5.size;have ho:∀ q,v.heap.size≤q→((w8.setCell ⟨w.heap.size,0,none⟩ (.slice z1 sh.length u1)).setCell ⟨w.heap.size,1,none⟩ (.slice z2 N u2)).heap[q]? = w8.heap[q]?:=fun q hq=>by
  rw [set1_other (by show ¬ w.heap.size=q;omega),set1_other (by show ¬ w.heap.size=q;omega)]
 refine ⟨z1,u1,z2,u2,rfl,⟨?_,?_⟩,Below.set2 gw8 (Nat.le_refl _) _ _⟩
 · refine HNN.out.imp ?_ ?_
   · rintro q ⟨h1,h2⟩;exact ⟨by omega,by rw [set1_size,set1_size];omega⟩
   · rintro q ⟨h1,h2⟩;rw [ho q (by omega),k8.block q (by omega),k7.block q (by omega)]
 · show RowB _ (cyc tr0 l N).length _ _
   rw [cyc_len];have hag:Agree (Fr w7.heap.size w8.heap.size) w8 ((w8.setCell ⟨w.heap.size,0,none⟩ (.slice z1 sh.length u1)).setCell ⟨w.heap.size,1,none⟩ (.slice z2 N u2)):=by
    rintro q ⟨h1,h2⟩;exact ho q (by omega)
   have hm:∀ q,Fr w7.heap.size w8.heap.size q→Fr w.heap.size ((w8.setCell ⟨w.heap.size,0,none⟩ (.slice z1 sh.length u1)).setCell ⟨w.heap.size,1,none⟩ (.slice z2 N u2)).heap.size q:=by
    rintro q ⟨h1,h2⟩;exact ⟨by omega,by rw [set1_size,set1_size];omega⟩
   exact RowB.imp HRR.out hm (fun q o j hq hj hc=>hc.imp hq hm hag (fun _ _ _ h=>ArV.imp hm hag f f _ _ _ (Nat.le_refl _) h))
end
section
variable {D:Nat→Prop} {f:Nat} {W:World} {x1:Option Addr} {n1 y1:Nat} {x2:Option Addr} {n2 y2:Nat} {t:Tr}
theorem isEmpty3_any (hD:∀ g,D g→g<W.heap.size) (h:ArV f D W (.slice x1 n1 y1) (.slice x2 n2 y2) t):Calls Tryz.prog 142 #[.agg #[.slice x1 n1 y1,.slice x2 n2 y2]] W fun e w'=>e=.returned (.bool (decide ((sizeF t.ns).1=0)))∧Below W.heap.size W w':=by
 obtain ⟨f,rfl⟩:∃ f',f=f'+1:=by
  cases f with
  | zero=>exact h.elim
  | succ f=>exact ⟨f,rfl⟩
 obtain rfl:=h.1.len;have k0:=below_alloc W (.cells #[.slice x1 t.ns.length y1,.slice x2 n2 y2] 25);have X0:=boxA_new W #[.slice x1 t.ns.length y1,.slice x2 n2 y2] 25;have z0:=X0.cell 0 rfl;have h1:=h.1.imp (fun _ h=>h) (Agree.of k0 hD);have hD1:∀ g,D g→g<(W.alloc (.cells #[.slice x1 t.ns.length y1,.slice x2 n2 y2] 25)).heap.size:=fun g hg=>by have:=hD g hg;simp;omega
 have C:=arrSize_any h1 hD1;obtain ⟨n,hn⟩:∃ n,(sizeF t.ns).1=n:=⟨_,rfl⟩;obtain ⟨m,hm⟩:∃ m,(sizeF t.ns).2=m:=⟨_,rfl⟩;rw [hn,hm] at C;have HN:Hid ((sizeF t.ns).1=n):=hn;clear h hD h1 hD1 hn hm;go_enter Tryz.func142,Tryz.ntmps142
 go_wp2_with fail
 refine C.mono ?_;rintro e w' ⟨rfl,rfl⟩;clear C;go_wp2
 go_ret
 exact ⟨by rw [HN.out];by_cases h:n=0 <;> simp [h],k0⟩
/-- What whole tells of an item. -/
def TellsInt (t:Tr) (n:Int) (ok:Bool):Prop:=(t.k=1∧IntTold (IsWhole t.b t.ns t.ds) (sg t.b (val t.ns)) n ok)∨(¬ t.k=1∧n=0∧ok=false)
variable {a1 a2 a3:Option Addr} {c1 c2 c3:Nat} {P:Value→Value→Tr→Prop}
theorem whole_any (hD:∀ g,D g→g<W.heap.size) (h:ItV P D W a1 c1 a2 c2 a3 c3 t):Calls Tryz.prog 143 #[.agg #[.int .u8 t.k,.bool t.b,.slice a1 t.ns.length c1,.slice a2 t.ds.length c2,.int .i32 t.c,.slice a3 t.kids.length c3]] W fun e w'=>∃ n ok,e=.returned (.tuple #[.int .i64 n,.bool ok])∧Hid (TellsInt t n ok)∧Below W.heap.size W w':=by
 have k0:=below_alloc W (.cells #[.int .u8 t.k,.bool t.b,.slice a1 t.ns.length c1,.slice a2 t.ds.length c2,.int .i32 t.c,.slice a3 t.kids.length c3] 68);have X0:=boxA_new W #[.int .u8 t.k,.bool t.b,.slice a1 t.ns.length c1,.slice a2 t.ds.length c2,.int .i32 t.c,.slice a3 t.kids.length c3] 68;have z0:=X0.cell 0 rfl;have z1:=X0.cell 1 rfl;have z2:=X0.cell 2 rfl;have z3:=X0.cell 3 rfl;have r1:=((h.rn.rd hD).below k0).mono k0.size;have r2:=((h.rd.rd hD).below k0).mono k0.size;have C:=toInt_rat (b:=t.b) r1 r2;have HC:Hid (Calls Tryz.prog 161 _ _ _):=C;clear h hD r1 r2 C;go_enter Tryz.func143,Tryz.ntmps143;by_cases hk:t.k=1
 · have hd:(t.k != 1)=false:=by simp [hk]
   have HK:Hid (t.k=1):=hk;clear hk
   go_wp2_with fail
   refine HC.out.mono ?_;rintro e w' ⟨n,ok,rfl,ht,kb⟩;go_wp2
   go_ret2
   exact ⟨n,ok,rfl,Or.inl ⟨HK.out,ht⟩,k0.trans (kb.mono k0.size)⟩
 · have hd:(t.k != 1)=true:=by simp [hk]
   have HK:Hid (¬ t.k=1):=hk;clear hk;go_wp2
   go_ret2
   exact ⟨0,false,rfl,Or.inr ⟨HK.out,rfl,rfl⟩,k0⟩
/-- What ToInt tells of an array. -/
def IntOf (t:Tr) (n:Int) (ok:Bool):Prop:=((t.kids.length=1∧(measF 16 t).isSome=true∧¬ (sizeF t.ns).1=0)∧TellsInt (t.kids.getD 0 tr0) n ok)∨(¬ (t.kids.length=1∧(measF 16 t).isSome=true∧¬ (sizeF t.ns).1=0)∧n=0∧ok=false)
theorem toInt3_any (hD:∀ g,D g→g<W.heap.size) (h:ArV f D W (.slice x1 n1 y1) (.slice x2 n2 y2) t):Calls Tryz.prog 103 #[.agg #[.slice x1 n1 y1,.slice x2 n2 y2]] W fun e w'=>∃ n ok,e=.returned (.tuple #[.int .i64 n,.bool ok])∧Hid (IntOf t n ok)∧Below W.heap.size W w':=by
 obtain ⟨f,rfl⟩:∃ f',f=f'+1:=by
  cases f with
  | zero=>exact h.elim
  | succ f=>exact ⟨f,rfl⟩
 obtain rfl:=h.2.len;have k0:=below_alloc W (.cells #[.slice x1 n1 y1,.slice x2 t.kids.length y2] 25);have X0:=boxA_new W #[.slice x1 n1 y1,.slice x2 t.kids.length y2] 25;have bd:=h.2.bounds;have z0:=X0.cell 0 rfl;have z1:=X0.cell 1 rfl;have H:Hid (ArV (f+1) D W (.slice x1 n1 y1) (.slice x2 t.kids.length y2) t):=h;have HD:Hid (∀ g,D g→g<W.heap.size):=hD;have lX:W.heap.size<(W.alloc (.cells #[.slice x1 n1 y1,.slice x2 t.kids.length y2] 25)).heap.size:=by simp
 clear h hD;go_enter Tryz.func103,Tryz.ntmps103;by_cases h1:¬ t.kids.length=1
 · have hd:(((t.kids.length:Nat):Int) != 1)=true:=by simp;omega
   have HK:Hid (¬ t.kids.length=1):=h1;clear h1;go_wp2
   go_ret2
   exact ⟨0,false,rfl,Or.inr ⟨fun h=>HK.out h.1,rfl,rfl⟩,k0⟩
 have h1:t.kids.length=1:=Decidable.not_not.1 h1;have hd:(((t.kids.length:Nat):Int) != 1)=false:=by simp;omega
 have H1:Hid (t.kids.length=1):=h1;clear h1
 go_wp2_with fail
 generalize hA:W.alloc (.cells #[.slice x1 n1 y1,.slice x2 t.kids.length y2] 25)=v at *;clear hA;refine (right3_any (D:=D) (f:=f+1) (t:=t) (fun g hg=>by have:=HD.out g hg;omega) (H.out.agree (Agree.of k0 HD.out))).mono ?_;rintro e w1 ⟨rfl,q1⟩;have k1:=k0.trans (q1.mono (Nat.le_of_lt lX));have X1:=X0.below q1 lX;have l1:W.heap.size<w1.heap.size:=X1.lt;have v0:=X1.cell 0 rfl;have v1:=X1.cell 1 rfl;clear z0 z1;by_cases hR:¬ (measF 16 t).isSome=true
 · have hR':(measF 16 t).isSome=false:=by simpa using hR
   have HR:Hid (¬ (measF 16 t).isSome=true):=hR;rw [hR'];clear hR hR';go_wp2
   go_ret2
   exact ⟨0,false,rfl,Or.inr ⟨fun h=>HR.out h.2.1,rfl,rfl⟩,k1⟩
 have hR:(measF 16 t).isSome=true:=Decidable.not_not.1 hR;have HR:Hid ((measF 16 t).isSome=true):=hR;rw [hR];clear hR
 go_wp2_with fail
 refine (isEmpty3_any (D:=D) (f:=f+1) (t:=t) (fun g hg=>by have:=HD.out g hg;omega) (H.out.agree (Agree.of k1 HD.out))).mono ?_;rintro e w2 ⟨rfl,q2⟩;have k2:=k1.trans (q2.mono (Nat.le_of_lt l1));have X2:=X1.below q2 l1;have l2:W.heap.size<w2.heap.size:=X2.lt;have u1:=X2.cell 1 rfl;clear v0 v1;by_cases hE:(sizeF t.ns).1=0
 · have HE:Hid ((sizeF t.ns).1=0):=hE
   have hE':decide ((sizeF t.ns).1=0)=true:=by simpa using hE
   rw [hE'];clear hE hE';go_wp2
   go_ret2
   exact ⟨0,false,rfl,Or.inr ⟨fun h=>h.2.2 HE.out,rfl,rfl⟩,k2⟩
 have HE:Hid (¬ (sizeF t.ns).1=0):=hE;have hE':decide ((sizeF t.ns).1=0)=false:=by simpa using hE
 rw [hE'];clear hE hE';obtain ⟨g1,o1,rfl,hg1,hc1⟩:=H.out.2.ptr (by have:=H1.out;omega);obtain ⟨b1,d1,b2,d2,b3,d3,⟨e0,e1,e2,e3,e4,e5⟩,hv⟩:=hc1 0 (by have:=H1.out;omega);have lg:=HD.out g1 hg1;have E0:=(k2.cell (p:=⟨g1,o1+0*6,none⟩) lg).trans e0;have E1:=(k2.cell (p:=⟨g1,o1+0*6+1,none⟩) lg).trans e1;have E2:=(k2.cell (p:=⟨g1,o1+0*6+2,none⟩) lg).trans e2;have E3:=(k2.cell (p:=⟨g1,o1+0*6+3,none⟩) lg).trans e3;have E4:=(k2.cell (p:=⟨g1,o1+0*6+4,none⟩) lg).trans e4;have E5:=(k2.cell (p:=⟨g1,o1+0*6+5,none⟩) lg).trans e5;rw [Nat.zero_mul,Nat.add_zero] at E0 E1 E2 E3 E4 E5;have hv2:=hv.agree (Agree.of k2 HD.out);have HV:Hid (ItV (ArV f D w2) D w2 b1 d1 b2 d2 b3 d3 (t.kids.getD 0 tr0)):=hv2;have hpos:(0:Int)<((t.kids.length:Nat):Int):=by have:=H1.out;omega
 clear hc1 e0 e1 e2 e3 e4 e5 hv hv2
 go_wp2_with fail
 refine (whole_any (fun g hg=>by have:=HD.out g hg;omega) HV.out).mono ?_;rintro e w3 ⟨n,ok,rfl,ht,q3⟩;go_wp2
 go_ret2
 exact ⟨n,ok,rfl,Or.inl ⟨⟨H1.out,HR.out,HE.out⟩,ht⟩,k2.trans (q3.mono (Nat.le_of_lt l2))⟩
end
theorem limbs2_len (n:Int):(limbs2 n).length≤2:=by
 unfold limbs2
 split
 · simp
 · split <;> simp
theorem wholeT_is {q:Int} (h0:-9223372036854775808≤q) (h1:q<9223372036854775808):WholeIs q (wholeT q).b (wholeT q).ns (wholeT q).ds:=by
 have hl:=limbs2_ok (n:=if q<0 then -q else q) (by split <;> omega) (by split <;> omega);exact ⟨rfl,hl.1,hl.2,limbs2_len _,rfl⟩
/-- A simple item that is right. -/
theorem whole_meas {q:Int} (M:Tr→Option (Int×Int)) (h0:-9223372036854775808≤q) (h1:q<9223372036854775808):measI M (wholeT q)=some (0,0):=measI_num rfl ⟨(wholeT_is h0 h1).right,rfl,rfl⟩
theorem measL_zero {I:Tr→Option (Int×Int)}:∀ (l:List Tr) (c:Int),(∀ t∈l,I t=some (0,0))→c≤16384→measL I l (1,c)=some (1,c)
 | [],c,_,_=>rfl
 | t :: r,c,h,hc=>by
  rw [measL,h t (by simp)];simp only [Int.add_zero];rw [if_neg (by omega)];exact measL_zero r c (fun x hx=>h x (by simp [hx])) hc
/-- An array with axes, of simple items. -/
theorem meas_simple {L:Nat} {t:Tr} (h1:(sizeF t.ns).2=0) (h2:(t.kids.length:Int)=max (sizeF t.ns).1 1) (h3:0<t.ns.length) (h4:∀ x∈t.kids,measI (measF L) x=some (0,0)):measF (L+1) t=some (1,(t.kids.length:Int)):=by
 have hin:=sizeF_in t.ns;rw [measF_succ ⟨h1,h2⟩,measL_zero _ _ h4 (by omega)];have hs:simpB t=false:=by
  have hd:decide (t.ns.length=0)=false:=decide_eq_false (by omega);unfold simpB;rw [hd];rfl
 unfold finM;simp [hs]
/-- A scalar of a simple item. -/
theorem meas_scalar {L:Nat} {x:Tr} (hk:x.k=1∨x.k=2) (h:measI (measF L) x=some (0,0)):measF (L+1) (arrT [] [x])=some (0,1):=by
 have e0:sizeF ([]:List Int)=(1,0):=by decide
 have e:sizeF (arrT [] [x]).ns=(1,0):=e0;rw [measF_succ ⟨by rw [e],by rw [e];rfl⟩];rw [measL_zero _ _ (by intro t ht;simp [arrT,Tr.kids] at ht;subst ht;exact h) (by show ((1:Nat):Int)≤16384;omega)];unfold finM simpB;have e2:((arrT [] [x]).kids.getD 0 tr0)=x:=rfl;rw [e2];rcases hk with hk | hk <;> simp [hk,arrT,Tr.ns,Tr.kids]
theorem size_one {n:Int} (h0:0≤n) (h1:n≤4096):sizeF [n]=(n,0):=by
 have e1:loF [n]=min 1 n:=rfl;have e2:hiF [n]=max 1 n:=rfl;have e3:prodF [n] 1=if 4096<1*n then none else some (1*n):=rfl
 unfold sizeF;rw [if_neg (by simp),e1,e2,e3,if_neg (by omega),if_neg (by omega)];by_cases hz:n=0
 · rw [if_pos (by omega),hz]
 · rw [if_neg (by omega),if_neg (by omega)]
   simp
/-- A vector of simple items. -/
theorem vec_meas {L:Nat} {tp:Tr} {ts:List Tr} (hp:measI (measF L) tp=some (0,0)) (h:∀ t∈ts,measI (measF L) t=some (0,0)):measF (L+1) (vecT tp ts)=some (1,((vecT tp ts).kids.length:Int)):=by
 have hl:(ts.take 4096).length≤4096:=by rw [List.length_take];omega
 have e:sizeF (vecT tp ts).ns=((((ts.take 4096).length:Nat):Int),0):=size_one (by omega) (by omega);refine meas_simple (by rw [e]) ?_ (by simp [vecT,arrT,Tr.ns]) ?_
 · rw [e]
   show ((vecK tp ts).length:Int)=_;unfold vecK
   split
   · rename_i hz
     rw [List.length_take,hz];rfl
   · rename_i hz
     have:1≤(ts.take 4096).length:=by rw [List.length_take];omega
     simp only [];omega
 · intro x hx
   have hx:x∈vecK tp ts:=hx;unfold vecK at hx
   split at hx
   · simp at hx;subst hx;exact hp
   · exact h x (List.mem_of_mem_take hx)
section
variable {D:Nat→Prop} {f:Nat} {W:World} {x1:Option Addr} {n1 y1:Nat} {x2:Option Addr} {n2 y2:Nat} {t:Tr}
end
end
end Go.Proofs.YtheaeggecpfcbaaGreat
