/- Rows of the document's table: entries and frames appended. -/
import Derived.Test.YtimfnalpmmkndaaGreatDoorRS
import Derived.Laws.AppendOwnNone
import Derived.Test.YtimfnalpmmkndaaGreatDoorNI
set_option linter.unusedVariables false
set_option linter.unusedSimpArgs false
namespace Go.Proofs.YtimfnalpmmkndaaGreatDoor
open Go.RowKit
variable {w w':World} {ops:Array Oper} {rest:List Oper} {o:Oper} {a:Act} {Q:Exit→Act→World→Prop} {D M:Nat→Prop} {R:List RF} {f rb tb:Nat} {T:List FrB}
abbrev EV.cellsA (p:EV):Array Value:=#[.string p.1,.int .i64 p.2.k,.slice p.2.a1 p.2.n1 p.2.y1,.slice p.2.a2 p.2.n2 p.2.y2,.string p.2.s1,.string p.2.s2,.string p.2.s3,.string p.2.s4,.slice p.2.b1 p.2.m1 p.2.z1,.slice p.2.b2 p.2.m2 p.2.z2,.slice p.2.b3 p.2.m3 p.2.z3,.slice p.2.b4 p.2.m4 p.2.z4,.bool p.2.br,.int .i64 p.2.ln]
abbrev ent0:Array Value:=#[.string ⟨#[]⟩,.int .i64 0,.slice none 0 0,.slice none 0 0,.string ⟨#[]⟩,.string ⟨#[]⟩,.string ⟨#[]⟩,.string ⟨#[]⟩,.slice none 0 0,.slice none 0 0,.slice none 0 0,.slice none 0 0,.bool false,.int .i64 0]
theorem info_entry:(Tryz.prog.info? 128).map (fun i=>(i.zero,i.size,i.bytes))=some (some (.agg ent0),14,248):=by kernel_rfl
theorem info_fr11:(Tryz.prog.info? 80).map (fun i=>(i.zero,i.size,i.bytes))=some (some (.agg #[.slice none 0 0,.slice none 0 0]),2,48):=by kernel_rfl
theorem append_ev {base:Nat} {v:Value} {E:List EV} {p:EV} {q:Nat} (hgd:o.guard=none) (s x:Operand)
    (ho:o.op=.call { callee:=.builtin .append,args:=#[s,x],argTypes:=#[78,78] }) (hs:a.eval s=v) (hx:a.eval x=.slice (some ⟨q,0,none⟩) 1 1) (hO:w.ownsRow base 128 14 v E.length (evRow E)) (hp:BoxA w q 128 (EV.cellsA p)) (hl:E.length≤1000) (hb:base≤w.heap.size)
    (h:∀ a' c' w',w'.ownsRow base 128 14 (.slice a' (E.length+1) c') (E.length+1) (evRow (E++[p]))→w.grownBy w' v.ownBlock→wpList Tryz.prog ops Q rest (a.put o.dst (.slice a' (E.length+1) c')) w'):wpList Tryz.prog ops Q (o :: rest) a w:=by
 obtain ⟨i0,hi,hz0,hz1,hz2⟩:=info_parts info_entry;refine wpList_append_own _ hgd s x 78 ho base 128 i0 (.agg ent0) 14 248 Tryz.underlying78 hi hz0 hz1 hz2 rfl (by decide) v E.length (evRow E) hs hO ⟨q,0,none⟩ 1 1 (EV.cells p) hx rfl (fun j u hj => ?_) (fun u hu=>evRow_one [p] u (by rw [evRow,evRow,List.append_nil];exact hu)) (by unfold maxLen;omega) (by omega) hb ?_
 · rw [show (⟨q,0,none⟩:Addr).add j=⟨q,j,none⟩ by cases j <;> simp [Addr.add]]
   refine hp.cell j ?_;rw [← hj,← Array.getElem?_toList]
 · intro v' w' hown hg _
   obtain ⟨a',c',rfl⟩:=row_form3 hown;refine h a' c' w' ?_ hg;rw [evRow_app,evRow,evRow,List.append_nil];exact hown
theorem append_nilF {a1:Option Addr} {c1:Nat} (hgd:o.guard=none) (s x:Operand)
    (ho:o.op=.call { callee:=.builtin .append,args:=#[s,x],argTypes:=#[81,81] }) (hs:a.eval s=.slice none 0 0) (hx:a.eval x=.slice a1 R.length c1) (hR:RowD D w 80 2 (.slice a1 R.length c1) R.length (rfRow R)) (h0:0<R.length) (hl:R.length≤1000)
    (h:∀ g c' w',w.heap.size≤g→w'.ownsRow w.heap.size 80 2 (.slice (some ⟨g,0,none⟩) R.length c') R.length (rfRow R)→Below w.heap.size w w'→wpList Tryz.prog ops Q rest (a.put o.dst (.slice (some ⟨g,0,none⟩) R.length c')) w'):wpList Tryz.prog ops Q (o :: rest) a w:=by
 obtain ⟨i0,hi,hz0,hz1,hz2⟩:=info_parts info_fr11;obtain ⟨g1,rfl,_,_,hcell⟩:=hR.ptr h0;refine wpList_append_own _ hgd s x 81 ho w.heap.size 80 i0 (.agg #[.slice none 0 0,.slice none 0 0]) 2 48 Tryz.underlying81 hi hz0 hz1 hz2 rfl (by decide) (.slice none 0 0) 0 [] hs (World.ownsRow_nil _ _ _ _) ⟨g1,0,none⟩ R.length c1 (rfRow R) hx (rfRow_len R) (fun j u hj => ?_) (rfRow_one R) (by unfold maxLen;omega) (by omega) (Nat.le_refl _) ?_
 · have hj2:j<R.length*2:=by
    rcases Nat.lt_or_ge j (R.length*2) with h' | h'
    · exact h'
    · rw [List.getElem?_eq_none (by rw [rfRow_len];exact h')] at hj;cases hj
   rw [show (⟨g1,0,none⟩:Addr).add j=⟨g1,j,none⟩ by cases j <;> simp [Addr.add],hcell j hj2];exact hj
 · intro v' w' hown hg _
   rw [Nat.zero_add,List.nil_append] at hown;have hB:Below w.heap.size w w':=(Below.refl _ _).grown hg (Nat.le_refl _) (fun k h=>by cases h);have hown':=hown;obtain ⟨_,⟨hv,hz⟩ | ⟨g,cap,cur,hv,hgb,r⟩⟩:=hown
   · omega
   · subst hv
     exact h g cap w' hgb hown' hB
theorem append_fr11 {base:Nat} {v:Value} {r:RF} {q:Nat} (hgd:o.guard=none) (s x:Operand)
    (ho:o.op=.call { callee:=.builtin .append,args:=#[s,x],argTypes:=#[81,81] }) (hs:a.eval s=v) (hx:a.eval x=.slice (some ⟨q,0,none⟩) 1 1) (hO:w.ownsRow base 80 2 v R.length (rfRow R)) (hp:BoxA w q 80 #[.slice r.la r.ls.length r.lc,.slice r.ea r.E.length r.ec]) (hl:R.length≤1000) (hb:base≤w.heap.size)
    (h:∀ a' c' w',w'.ownsRow base 80 2 (.slice a' (R.length+1) c') (R.length+1) (rfRow (R++[r]))→w.grownBy w' v.ownBlock→wpList Tryz.prog ops Q rest (a.put o.dst (.slice a' (R.length+1) c')) w'):wpList Tryz.prog ops Q (o :: rest) a w:=by
 obtain ⟨i0,hi,hz0,hz1,hz2⟩:=info_parts info_fr11;refine wpList_append_own _ hgd s x 81 ho base 80 i0 (.agg #[.slice none 0 0,.slice none 0 0]) 2 48 Tryz.underlying81 hi hz0 hz1 hz2 rfl (by decide) v R.length (rfRow R) hs hO ⟨q,0,none⟩ 1 1 (rfRow [r]) hx rfl (fun j u hj => ?_) (rfRow_one [r]) (by unfold maxLen;omega) (by omega) hb ?_
 · rw [show (⟨q,0,none⟩:Addr).add j=⟨q,j,none⟩ by cases j <;> simp [Addr.add]]
   refine hp.cell j ?_;rw [← hj,← Array.getElem?_toList];rfl
 · intro v' w' hown hg _
   obtain ⟨a',c',rfl⟩:=row_form3 hown;refine h a' c' w' ?_ hg;rw [rfRow_app];exact hown
theorem RTab.turned {w1 w2:World} {g cL k:Nat} {a a8:Option Addr} {c c8:Nat} {E:List EV} (hR:RT f D w (.slice a R.length c) R) (hB:BoxA w rb 83 #[.slice a R.length c]) (hD:∀ q,D q→q<w.heap.size∧q≠rb) (hk:k<R.length)
    (hE:∀ p∈E,GoodB f D w p.2) (h5:E.length≤512) (k1:Below w.heap.size w w1) (hrow:w1.ownsRow w.heap.size 128 14 (.slice a8 E.length c8) E.length (evRow E)) (k2:Below w1.heap.size w1 w2) (hg:w1.heap.size≤g) (hfr:w2.ownsRow w1.heap.size 80 2 (.slice (some ⟨g,0,none⟩) R.length cL) R.length (rfRow R)) :
    RTab f (DX D w ((w2.setCell ⟨g,k*2+1,none⟩ (.slice a8 E.length c8)).setCell ⟨rb,0,none⟩ (.slice (some ⟨g,0,none⟩) R.length cL))) ((w2.setCell ⟨g,k*2+1,none⟩ (.slice a8 E.length c8)).setCell ⟨rb,0,none⟩ (.slice (some ⟨g,0,none⟩) R.length cL)) rb∧Kp rb w ((w2.setCell ⟨g,k*2+1,none⟩ (.slice a8 E.length c8)).setCell ⟨rb,0,none⟩ (.slice (some ⟨g,0,none⟩) R.length cL)):=by
 have lrb:=hB.lt;have s1:=k1.size;have s2:=k2.size;have lg:g<w2.heap.size:=(row_own hfr g rfl).2;obtain ⟨W,hW⟩:∃ W,(w2.setCell ⟨g,k*2+1,none⟩ (.slice a8 E.length c8)).setCell ⟨rb,0,none⟩ (.slice (some ⟨g,0,none⟩) R.length cL)=W:=⟨_,rfl⟩;have oth:∀ q,q≠g→q≠rb→W.heap[q]? = w2.heap[q]?:=fun q h1 h2=>by rw [← hW,set1_other (by show ¬ rb=q;exact fun e=>h2 e.symm),set1_other (by show ¬ g=q;exact fun e=>h1 e.symm)]
 have sz:W.heap.size=w2.heap.size:=by rw [← hW,set1_size,set1_size]
 have bW:BoxA W rb 83 #[.slice (some ⟨g,0,none⟩) R.length cL]:=by
  have b2:BoxA w2 rb 83 #[.slice a R.length c]:=(hB.below k1 lrb).below k2 (by omega);have b3:BoxA (w2.setCell ⟨g,k*2+1,none⟩ (.slice a8 E.length c8)) rb 83 #[.slice a R.length c]:=b2.of_blk (set1_other (by show ¬ g=rb;omega) _);rw [← hW];unfold BoxA at b3 ⊢;simp [World.setCell,Array.getElem?_modify] at b3 ⊢;simp [b3]
 have rW:W.ownsRow w1.heap.size 80 2 (.slice (some ⟨g,0,none⟩) R.length cL) R.length (rfRow (R.set k { R.getD k rf0 with ea:=a8,ec:=c8,E:=E })):=by
  rw [rfRow_set R k a8 c8 E hk,← hW];refine ownsRow_setCell_other ?_ (by intro e;have:=Option.some.inj e;simp at this;omega) _;exact (hfr.stored (k*2+1) _).1
 rw [hW];have hDX:∀ q,D q→DX D w W q:=fun q hq=>Or.inl hq;have ag:Agree D w W:=fun q hq=>by
  have:=hD q hq;rw [oth q (by omega) this.2,k2.block q (by omega),k1.block q this.1]
 have hin:∀ q,w.heap.size≤q→q<w2.heap.size→DX D w W q:=fun q h1 h2=>Or.inr ⟨h1,by omega⟩;refine ⟨⟨some ⟨g,0,none⟩,cL,R.set k { R.getD k rf0 with ea:=a8,ec:=c8,E:=E },by rw [List.length_set];exact bW,⟨⟨?_,?_⟩,fun r hr => ?_,by rw [List.length_set];exact hR.pos,by rw [List.length_set];exact hR.few⟩⟩,⟨by rw [← hW];exact k2.os.trans k1.os,by rw [← hW];exact k2.tape.trans k1.tape,by rw [← hW];exact k2.output.trans k1.output,by omega,fun q h1 h2=>by rw [oth q (by omega) h2,k2.block q (by omega),k1.block q h1]⟩⟩
 · rw [List.length_set];exact rowMonoR rW (Nat.zero_le _)
 · intro q hq
   cases hq
   exact hin g (by omega) lg
 · rcases List.mem_or_eq_of_mem_set hr with h1 | rfl
   · exact (hR.fr r h1).imp hDX ag
   · have hf:=hR.frame hk
     have hrl:=row_own hrow;refine ⟨hf.nm.imp hDX ag,⟨own_blockN (rowMonoR hrow (Nat.zero_le _)) (fun q hq => ?_),fun q hq=>hin q (hrl q hq).1 (by have:=(hrl q hq).2;omega)⟩,fun p hp=>(hE p hp).imp hDX ag,h5⟩;have:=hrl q hq;rw [oth q (by omega) (by omega),k2.block q this.2]
structure Dd where
 ss:List ByteArray
 b:Bd
def dd0:Dd:=⟨[],bd0⟩
structure DV where
 k:Int
 na:Option Addr
 nn:Nat
 nc:Nat
 x1:Option Addr
 n1:Nat
 y1:Nat
 x2:Option Addr
 n2:Nat
 y2:Nat
 s1:ByteArray
 s2:ByteArray
 s3:ByteArray
 s4:ByteArray
 b1:Option Addr
 m1:Nat
 z1:Nat
 b2:Option Addr
 m2:Nat
 z2:Nat
 b3:Option Addr
 m3:Nat
 z3:Nat
 b4:Option Addr
 m4:Nat
 z4:Nat
 br:Bool
 ln:Int
abbrev DV.cells (v:DV):Array Value:=#[.int .i64 v.k,.slice v.na v.nn v.nc,.slice v.x1 v.n1 v.y1,.slice v.x2 v.n2 v.y2,.string v.s1,.string v.s2,.string v.s3,.string v.s4,.slice v.b1 v.m1 v.z1,.slice v.b2 v.m2 v.z2,.slice v.b3 v.m3 v.z3,.slice v.b4 v.m4 v.z4,.bool v.br,.int .i64 v.ln]
structure DdIs (f:Nat) (D:Nat→Prop) (w:World) (v:DV) (d:Dd):Prop where
 form:∃ na nc x1 y1 x2 y2 b1 z1 b2 z2 b3 z3 b4 z4,v=⟨d.b.k,na,d.ss.length,nc,x1,d.b.t.ns.length,y1,x2,d.b.t.kids.length,y2,d.b.s1,d.b.s2,d.b.s3,d.b.s4,b1,d.b.l1.length,z1,b2,d.b.l2.length,z2,b3,d.b.l3.length,z3,b4,d.b.l4.length,z4,d.b.br,d.b.ln⟩∧RdT D w (.slice na d.ss.length nc) d.ss ∧
  ArV (f+1) D w (.slice x1 d.b.t.ns.length y1) (.slice x2 d.b.t.kids.length y2) d.b.t∧Lists4 D w b1 b2 b3 b4 z1 z2 z3 z4 d.b.l1 d.b.l2 d.b.l3 d.b.l4
 short:shortB d.b
 small:smF (f+1) d.b.t
 txt:∀ x∈d.ss,x.size≤9223372036854775807
 few:d.ss.length≤8796093022208
 nam:d.b.s1.size≤9223372036854775807
theorem DdIs.imp {D':Nat→Prop} {v:DV} {d:Dd} (h:DdIs f D w v d) (hD:∀ g,D g→D' g) (ag:Agree D w w'):DdIs f D' w' v d:=by
 obtain ⟨⟨na,nc,x1,y1,x2,y2,b1,z1,b2,z2,b3,z3,b4,z4,rfl,h1,h2,h3⟩,a,b,c,d,e⟩:=h;exact ⟨⟨na,nc,x1,y1,x2,y2,b1,z1,b2,z2,b3,z3,b4,z4,rfl,h1.imp hD ag,ArV.imp hD ag _ _ _ _ _ (Nat.le_refl _) h2,h3.imp hD ag⟩,a,b,c,d,e⟩
def Deeds (f:Nat) (D:Nat→Prop) (w:World) (v:Value) (L:List Dd):Prop:=RowB D L.length v (fun g o j=>∃ x:DV,(∀ k,k<14→w.cell? ⟨g,o+j*14+k,none⟩=x.cells[k]?)∧DdIs f D w x (L.getD j dd0))
structure Both (f:Nat) (M D:Nat→Prop) (w:World) (tb rb:Nat) (T:List FrB):Prop where
 tab:TabIs f M w tb T
 tok:TOK T
 ref:RTab f D w rb
 dlt:∀ g,D g→g<w.heap.size∧g≠rb∧¬ M g
 nrb:¬ M rb
 lrb:tb≤rb
theorem RTab.one (h:RTab f D w rb):OneSl w rb∧rb<w.heap.size:=by
 obtain ⟨a,c,R,h1,h2⟩:=h;exact ⟨oneSl_box h1,h1.lt⟩
theorem TabIs.lowR (h:TabIs f M w tb T):tb<w.heap.size∧∀ g,M g→tb≤g∧g<w.heap.size:=by
 obtain ⟨m0,ua,ucap,rs,h⟩:=h;exact ⟨h.box.lt,h.lo⟩
theorem Both.left {M':Nat→Prop} {T':List FrB} (h:Both f M D w tb rb T) (h1:TabIs f M' w' tb T') (h2:TOK T') (k:KpM M w w') (n:NewM M M' w):Both f M' D w' tb rb T'∧Below tb w w':=by
 obtain ⟨_,hrb⟩:=h.ref.one;refine ⟨⟨h1,h2,h.ref.imp (fun _ h=>h) (fun g hg=>k.block g (h.dlt g hg).1 (h.dlt g hg).2.2) (k.block rb hrb h.nrb),fun g hg=>⟨by have:=(h.dlt g hg).1;have:=k.size;omega,(h.dlt g hg).2.1,fun e => ?_⟩,fun e => ?_,h.lrb⟩,k.below (fun g hg=>(h.tab.lowR.2 g hg).1) (Nat.le_of_lt h.tab.lowR.1)⟩
 · rcases n g e with e | e
   · exact (h.dlt g hg).2.2 e
   · have:=(h.dlt g hg).1;omega
 · rcases n rb e with e | e
   · exact h.nrb e
   · omega
theorem Both.ans {T':List FrB} {r:Int} {e:Ending} (h:Both f M D w tb rb T) (h2:TOK T') (a:TabAns f M w tb r T' e w'):∃ M',Both f M' D w' tb rb T'∧Below tb w w':=by
 obtain ⟨_,M',a1,a2,a3⟩:=a;exact ⟨M',h.left a1 h2 a2 a3⟩
theorem Both.below (h:Both f M D w tb rb T) (k:Below w.heap.size w w'):Both f M D w' tb rb T:=
 (h.left (h.tab.below k) h.tok (KpM.of_below k) (NewM.refl _ _)).1
theorem Both.right {e:Ending} (h:Both f M D w tb rb T) (a:RtAns f D w rb e w'):Both f M (DX D w w') w' tb rb T∧Below tb w w':=by
 obtain ⟨n,_,a2,a3⟩:=a;obtain ⟨h1,hrb⟩:=h.ref.one;have hs:=a3.size;refine ⟨⟨h.tab.turn h1 h.nrb a3,h.tok,a2,fun g hg => ?_,h.nrb,h.lrb⟩,⟨a3.os,a3.tape,a3.output,hs,fun g hg=>a3.block g (by have:=h.tab.lowR.1;omega) (fun e=>by have:=h.lrb;omega)⟩⟩;rcases hg with hg | hg
 · exact ⟨by have:=(h.dlt g hg).1;omega,(h.dlt g hg).2⟩
 · exact ⟨hg.2,by omega,fun e=>by have:=(h.tab.lowR.2 g e).2;omega⟩
end Go.Proofs.YtimfnalpmmkndaaGreatDoor
