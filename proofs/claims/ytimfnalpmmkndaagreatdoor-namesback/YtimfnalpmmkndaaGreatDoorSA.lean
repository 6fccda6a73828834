/- Maps of functions, keyed by characters, that a call makes: laid entry by entry, and looked up. -/
import Derived.Test.YtimfnalpmmkndaaGreatDoorJ1
import Derived.MapKept
import Derived.WideMake
import Derived.Test.YtimfnalpmmkndaaGreatDoorJ3
import Derived.Laws.AppendOwnNone
import Derived.Lib.SliceRun
import Derived.Lib.AppendZerosOnto
import Derived.Maps.AppendAt
set_option maxRecDepth 100000
set_option maxHeartbeats 1600000
set_option linter.unusedVariables false
set_option linter.unusedSimpArgs false
namespace Go.Proofs.YtimfnalpmmkndaaGreatDoor
open Go.RowKit
variable {B g c1 c n base:Nat} {w w':World} {v:Value} {a1 a:Option Addr} {ss:List ByteArray}
structure Kp (B:Nat) (w w':World):Prop where
 os:w'.os=w.os
 tape:w'.tape=w.tape
 output:w'.output=w.output
 size:w.heap.size≤w'.heap.size
 block:∀ g,g<w.heap.size→g≠B→w'.heap[g]? = w.heap[g]?
theorem Kp.refl (B:Nat) (w:World):Kp B w w:=⟨rfl,rfl,rfl,Nat.le_refl _,fun _ _ _=>rfl⟩
theorem Kp.trans {a b c:World} (h:Kp B a b) (k:Kp B b c):Kp B a c:=⟨k.os.trans h.os,k.tape.trans h.tape,k.output.trans h.output,Nat.le_trans h.size k.size,fun g hg hB=>(k.block g (Nat.lt_of_lt_of_le hg h.size) hB).trans (h.block g hg hB)⟩
theorem Kp.of_below (h:Below w.heap.size w w'):Kp B w w':=⟨h.os,h.tape,h.output,h.size,fun g hg _=>h.block g hg⟩
theorem Kp.cell {o:Nat} (h:Kp B w w') (hB:g≠B) (hc:w.cell? ⟨g,o,none⟩=some v):w'.cell? ⟨g,o,none⟩=some v:=by
 have hlt:g<w.heap.size:=by
  rcases Nat.lt_or_ge g w.heap.size with h' | h'
  · exact h'
  · simp [World.cell?,Array.getElem?_eq_none h'] at hc
 rw [World.cell?_of_block (w:=w) (h.block g hlt hB)];exact hc
section
variable {P:Program} {mty kt et:TypeId} {w:World} {B:Nat} {l:List (Int×Value)} {k:Int} {v:Value}
end
def noT:ByteArray:=⟨#[]⟩
def memT (k:ByteArray) (ks:List ByteArray):Bool:=ks.any fun y=>decide (y=k)
theorem memT_iff {k:ByteArray} {ks:List ByteArray}:memT k ks=true↔k∈ks:=by
 unfold memT;rw [List.any_eq_true];exact ⟨fun ⟨y,hy,e⟩=>by rw [← of_decide_eq_true e];exact hy,fun h=>⟨k,h,by simp⟩⟩
theorem memT_no {k:ByteArray} {ks:List ByteArray} (h:k ∉ ks):memT k ks=false:=by
 cases e:memT k ks with
 | false=>rfl
 | true=>exact absurd (memT_iff.1 e) h
section
variable {P:Program} {mty kt et:TypeId} {w:World} {B:Nat} {ks:List ByteArray} {k:ByteArray}
end
def BoxA (w:World) (B ty:Nat) (xs:Array Value):Prop:=w.heap[B]? = some (.cells xs ty (0,0))
section
variable {w w':World} {B ty base:Nat} {xs:Array Value}
theorem boxA_new (w:World) (xs:Array Value) (ty:Nat):BoxA (w.alloc (.cells xs ty)) w.heap.size ty xs:=heap_alloc_new _ _
theorem BoxA.lt (h:BoxA w B ty xs):B<w.heap.size:=by
 unfold BoxA at h;exact (Array.getElem?_eq_some_iff.1 h).1
theorem BoxA.below (h:BoxA w B ty xs) (hb:Below base w w') (hB:B<base):BoxA w' B ty xs:=by
 unfold BoxA at *;rw [hb.block B hB];exact h
theorem BoxA.cell (h:BoxA w B ty xs) (i:Nat) {v:Value} (hv:xs[i]? = some v):w.cell? ⟨B,i,none⟩=some v:=by
 unfold BoxA at h;simp [World.cell?,h,hv]
theorem BoxA.frozen (h:BoxA w B ty xs) (i:Nat):w.frozen? ⟨B,i,none⟩=false:=by
 unfold BoxA at h;simp [World.frozen?,h]
end
theorem BoxA.num {ty:Nat} {b:Bool} {a2:Option Addr} {n1 n2 c2:Nat} (h:BoxA w B ty #[.int .u8 1,.bool b,.slice a1 n1 c1,.slice a2 n2 c2,.int .i32 0,.slice none 0 0]) :
    w.cell? ⟨B,0,none⟩=some (.int .u8 1)∧w.cell? ⟨B,1,none⟩=some (.bool b)∧w.cell? ⟨B,2,none⟩=some (.slice a1 n1 c1)∧w.cell? ⟨B,3,none⟩=some (.slice a2 n2 c2)∧w.cell? ⟨B,4,none⟩=some (.int .i32 0)∧w.cell? ⟨B,5,none⟩=some (.slice none 0 0):=
 ⟨h.cell 0 rfl,h.cell 1 rfl,h.cell 2 rfl,h.cell 3 rfl,h.cell 4 rfl,h.cell 5 rfl⟩
section
variable {w:World} {b:Bool} {a1 a2:Option Addr} {n1 n2 c1 c2:Nat}
theorem number_any :
    Calls Tryz.prog 61 #[.agg #[.bool b,.slice a1 n1 c1,.slice a2 n2 c2]] w fun e w'=>e=.returned (.agg #[.int .u8 1,.bool b,.slice a1 n1 c1,.slice a2 n2 c2,.int .i32 0,.slice none 0 0])∧Below w.heap.size w w':=by
 have hb:=boxA_new (w.alloc (.cells #[.bool b,.slice a1 n1 c1,.slice a2 n2 c2] 110)) #[.int .u8 1,.bool b,.slice a1 n1 c1,.slice a2 n2 c2,.int .i32 0,.slice none 0 0] 113;rw [World.size_alloc] at hb;have g:=((Below.refl w.heap.size w).alloc (Nat.le_refl _) (.cells #[.bool b,.slice a1 n1 c1,.slice a2 n2 c2] 110)).alloc (by simp) (.cells #[.int .u8 1,.bool b,.slice a1 n1 c1,.slice a2 n2 c2,.int .i32 0,.slice none 0 0] 113);go_enter Tryz.func61,Tryz.ntmps61;go_wp2
 obtain ⟨r0,r1,r2,r3,r4,r5⟩:=hb.num;refine bodyPost_ret (v:=.agg #[.int .u8 1,.bool b,.slice a1 n1 c1,.slice a2 n2 c2,.int .i32 0,.slice none 0 0]) (by simp [results,Tryz.results61,go_sem,r0,r1,r2,r3,r4,r5]) rfl ?_;exact ⟨rfl,g⟩
theorem scalar_any :
    Calls Tryz.prog 60 #[.agg #[.int .u8 1,.bool b,.slice a1 n1 c1,.slice a2 n2 c2,.int .i32 0,.slice none 0 0]] w fun e w'=>∃ k,e=.returned (.agg #[.slice none 0 0,.slice (some ⟨k,0,none⟩) 1 1])∧w.heap.size≤k∧BoxA w' k 113 #[.int .u8 1,.bool b,.slice a1 n1 c1,.slice a2 n2 c2,.int .i32 0,.slice none 0 0]∧Below w.heap.size w w':=by
 have g1:=(Below.refl w.heap.size w).alloc (Nat.le_refl _) (.cells #[.int .u8 1,.bool b,.slice a1 n1 c1,.slice a2 n2 c2,.int .i32 0,.slice none 0 0] 113);have g2:=g1.alloc (by simp) (.cells #[.slice none 0 0,.slice (some ⟨w.heap.size+1+1,0,none⟩) 1 1] 29);have g3:=g2.alloc (by simp;omega) (.cells #[.int .u8 1,.bool b,.slice a1 n1 c1,.slice a2 n2 c2,.int .i32 0,.slice none 0 0] 113);have hk:=boxA_new ((w.alloc (.cells #[.int .u8 1,.bool b,.slice a1 n1 c1,.slice a2 n2 c2,.int .i32 0,.slice none 0 0] 113)).alloc (.cells #[.slice none 0 0,.slice (some ⟨w.heap.size+1+1,0,none⟩) 1 1] 29)) #[.int .u8 1,.bool b,.slice a1 n1 c1,.slice a2 n2 c2,.int .i32 0,.slice none 0 0] 113;rw [World.size_alloc,World.size_alloc] at hk;have hb:=boxA_new (w.alloc (.cells #[.int .u8 1,.bool b,.slice a1 n1 c1,.slice a2 n2 c2,.int .i32 0,.slice none 0 0] 113)) #[.slice none 0 0,.slice (some ⟨w.heap.size+1+1,0,none⟩) 1 1] 29;have hb2:=hb.below (below_alloc _ (.cells #[.int .u8 1,.bool b,.slice a1 n1 c1,.slice a2 n2 c2,.int .i32 0,.slice none 0 0] 113)) (by simp);rw [World.size_alloc] at hb2;go_enter Tryz.func60,Tryz.ntmps60;go_wp2
 have r0:=hb2.cell 0 rfl;have r1:=hb2.cell 1 rfl;refine bodyPost_ret (v:=.agg #[.slice none 0 0,.slice (some ⟨w.heap.size+1+1,0,none⟩) 1 1]) (by simp [results,Tryz.results60,go_sem,r0,r1]) rfl ?_;exact ⟨_,rfl,by omega,hk,g3⟩
end
section
variable {w w':World} {B ty base:Nat} {u0 u1 u2 u3 u4 u5:Value}
theorem BoxA.set6 (h:BoxA w B ty #[u0,u1,u2,u3,u4,u5]) (v0 v1 v2 v3 v4 v5:Value):BoxA ((((((w.setCell ⟨B,0,none⟩ v0).setCell ⟨B,1,none⟩ v1).setCell ⟨B,2,none⟩ v2).setCell ⟨B,3,none⟩ v3).setCell ⟨B,4,none⟩ v4).setCell ⟨B,5,none⟩ v5) B ty #[v0,v1,v2,v3,v4,v5]:=by
 unfold BoxA at h ⊢;simp [World.setCell,Array.getElem?_modify,h]
theorem Below.set6 (h:Below base w w') (hB:base≤B) (v0 v1 v2 v3 v4 v5:Value):Below base w ((((((w'.setCell ⟨B,0,none⟩ v0).setCell ⟨B,1,none⟩ v1).setCell ⟨B,2,none⟩ v2).setCell ⟨B,3,none⟩ v3).setCell ⟨B,4,none⟩ v4).setCell ⟨B,5,none⟩ v5):=
 (((((h.setCell (p:=⟨B,0,none⟩) hB _).setCell (p:=⟨B,1,none⟩) hB _).setCell (p:=⟨B,2,none⟩) hB _).setCell (p:=⟨B,3,none⟩) hB _).setCell (p:=⟨B,4,none⟩) hB _).setCell (p:=⟨B,5,none⟩) hB _
theorem Own.set6 {xs:List Int} (h:Own base w v xs) (hB:B<base) (v0 v1 v2 v3 v4 v5:Value):Own base ((((((w.setCell ⟨B,0,none⟩ v0).setCell ⟨B,1,none⟩ v1).setCell ⟨B,2,none⟩ v2).setCell ⟨B,3,none⟩ v3).setCell ⟨B,4,none⟩ v4).setCell ⟨B,5,none⟩ v5) v xs:=by
 have e:v.ownBlock≠some B:=ownBlock_ne h hB;exact (((((h.setCell (a:=⟨B,0,none⟩) e _).setCell (a:=⟨B,1,none⟩) e _).setCell (a:=⟨B,2,none⟩) e _).setCell (a:=⟨B,3,none⟩) e _).setCell (a:=⟨B,4,none⟩) e _).setCell (a:=⟨B,5,none⟩) e _
end
theorem rd_parts' {xs:List Int} (h:Rd B w (.slice a xs.length c) xs):(a=none∧xs=[]∧c=0)∨∃ ad,a=some ad∧∀ j u,(xs.map (Value.int .u32))[j]? = some u→w.cell? (ad.add j)=some u:=by
 obtain ⟨_,a',c',e,h1,h2,h3,h4⟩:=h;have ea:a'=a∧c'=c:=by cases e;exact ⟨rfl,rfl⟩
 obtain ⟨rfl,rfl⟩:=ea
 cases a' with
 | none=>
  have:=h3 rfl;subst this;exact Or.inl ⟨rfl,List.eq_nil_of_length_eq_zero (by omega),rfl⟩
 | some ad=>
  refine Or.inr ⟨ad,rfl,?_⟩;rcases h4 with h4 | ⟨b,off,e2,_,hc⟩
  · have:xs=[]:=List.eq_nil_of_length_eq_zero h4
    subst this;intro j u h;simp at h
  · cases e2
    exact cells_news hc
theorem append_nil_list {ops:Array Oper} {rest:List Oper} {o:Oper} {a:Act} {Q:Exit→Act→World→Prop} {ns:List Int} (hgd:o.guard=none) (s x:Operand)
    (ho:o.op=.call { callee:=.builtin .append,args:=#[s,x],argTypes:=#[108,108] }) (hs:a.eval s=.slice none 0 0) (hx:a.eval x=.slice a1 ns.length c1) (hR:Rd B w (.slice a1 ns.length c1) ns) (hl:ns.length*4≤140737488355328)
    (h:∀ x1 y1 w',Own w.heap.size w' (.slice x1 ns.length y1) ns→Below w.heap.size w w'→wpList Tryz.prog ops Q rest (a.put o.dst (.slice x1 ns.length y1)) w'):wpList Tryz.prog ops Q (o :: rest) a w:=by
 obtain ⟨i0,hi,hz0,hz1,hz2⟩:=info_parts info_u32;have hlim:=hR.lim;rcases rd_parts' hR with ⟨rfl,rfl,rfl⟩ | ⟨ad,rfl,hN⟩
 · exact wpList_append_own_none hgd s x 108 ho w.heap.size 196 i0 1 Tryz.underlying108 hi (.slice none 0 0) 0 [] hs (World.ownsRow_nil _ _ _ _) hx (h none 0 w ⟨lim_nil,World.ownsRow_nil _ _ _ _⟩ (Below.refl _ _))
 · refine wpList_append_own _ hgd s x 108 ho w.heap.size 196 i0 (.int .u32 0) 1 4 Tryz.underlying108 hi hz0 hz1 hz2 rfl (by decide) (.slice none 0 0) 0 [] hs (World.ownsRow_nil _ _ _ _) ad ns.length c1 (ns.map (Value.int .u32)) hx (by rw [List.length_map];omega) hN (ints_oneCell _ _) ?_ ?_ (Nat.le_refl _) ?_
   · unfold maxLen;omega
   · omega
   intro v' w2 hown hgrow _;rw [Nat.zero_add,List.nil_append] at hown;have o1:Own w.heap.size w2 v' ns:=⟨hlim,hown⟩;obtain ⟨x1,y1,rfl⟩:=o1.form;exact h x1 y1 w2 o1 ((Below.refl _ _).grown hgrow (Nat.le_refl _) (fun k h=>by cases h))
theorem copyLimbs_any {ns:List Int} (h1:Rd w.heap.size w (.slice a1 ns.length c1) ns) (l1:ns.length*4≤140737488355328) :
    Calls Tryz.prog 179 #[.slice a1 ns.length c1] w fun e w'=>∃ x1 y1,e=.returned (.slice x1 ns.length y1)∧Own w.heap.size w' (.slice x1 ns.length y1) ns∧Below w.heap.size w w':=by
 go_enter Tryz.func179,Tryz.ntmps179
 go_wp2_with (at_builtin;refine append_nil_list rfl _ _ rfl rfl rfl h1 l1 ?_)
 intro x1 y1 w2 o1 k1;go_wp2
 go_ret
 exact ⟨x1,y1,rfl,o1,k1⟩
theorem info_strS:(Tryz.prog.info? 9).map (fun i=>(i.zero,i.size,i.bytes))=some (some (.string ⟨#[]⟩),1,16):=by kernel_rfl
def RdS (B:Nat) (w:World) (v:Value) (ss:List ByteArray):Prop:=∃ a c,v=.slice a ss.length c∧ss.length≤c∧c≤9223372036854775807∧(a=none→c=0)∧(ss=[]∨∃ g o,a=some ⟨g,o,none⟩∧g<B∧∀ j,j<ss.length→w.cell? ⟨g,o+j,none⟩=some (.string (ss.getD j noT)))
abbrev OwS (base:Nat) (w:World) (v:Value) (ss:List ByteArray):Prop:=w.ownsRow base 9 1 v ss.length (ss.map Value.string)
theorem RdS.nil (B:Nat) (w:World):RdS B w (.slice none 0 0) []:=⟨none,0,rfl,by simp,by omega,fun _=>rfl,Or.inl rfl⟩
theorem RdS.below {C:Nat} (h:RdS B w v ss) (k:Below C w w') (hC:B≤C):RdS B w' v ss:=by
 obtain ⟨a,c,h1,h2,h3,h3',h4⟩:=h;refine ⟨a,c,h1,h2,h3,h3',?_⟩;rcases h4 with h4 | ⟨g,o,h4,h5,h6⟩
 · exact Or.inl h4
 · exact Or.inr ⟨g,o,h4,h5,fun j hj=>by rw [k.cell (p:=⟨g,o+j,none⟩) (by show g<C;omega)];exact h6 j hj⟩
theorem RdS.mono {C:Nat} (h:RdS B w v ss) (hC:B≤C):RdS C w v ss:=by
 obtain ⟨a,c,h1,h2,h3,h3',h4⟩:=h;refine ⟨a,c,h1,h2,h3,h3',?_⟩;rcases h4 with h4 | ⟨g,o,h4,h5,h6⟩
 · exact Or.inl h4
 · exact Or.inr ⟨g,o,h4,by omega,h6⟩
theorem RdS.ptr (h:RdS B w (.slice a n c) ss) (h0:0<ss.length):∃ g o,a=some ⟨g,o,none⟩∧g<B∧∀ j,j<ss.length→w.cell? ⟨g,o+j,none⟩=some (.string (ss.getD j noT)):=by
 obtain ⟨a',c',h1,h2,h3,_,h4⟩:=h;obtain ⟨rfl,_,_⟩:=Value.slice.inj h1;rcases h4 with h4 | h4
 · subst h4;simp at h0
 · exact h4
theorem getD_mapS {j:Nat} (hj:j<ss.length):(ss.map Value.string)[j]? = some (.string (ss.getD j noT)):=by
 rw [List.getElem?_map,List.getElem?_eq_getElem hj];simp [List.getD_eq_getElem?_getD,List.getElem?_eq_getElem hj]
theorem RdS.of_row (h:OwS base w v ss):RdS w.heap.size w v ss:=by
 have h':=h;obtain ⟨h1,⟨hv,hn⟩ | ⟨g,cap,cur,hv,hg,hh,r1,r2,r3,r4⟩⟩:=h'
 · have:ss=[]:=List.eq_nil_of_length_eq_zero hn
   subst this;rw [hv];exact RdS.nil _ _
 · subst hv
   refine ⟨some ⟨g,0,none⟩,cap,rfl,r1,r2,(fun e=>by cases e),Or.inr ⟨g,0,rfl,lt_of_block hh,fun j hj => ?_⟩⟩;rw [Nat.zero_add,World.ownsRow.cellAt h j (by omega)];exact getD_mapS hj
theorem owS_belowS (h:OwS base w v ss) (hb:Below B w w') (hB:w.heap.size≤B):OwS base w' v ss:=by
 obtain ⟨h1,h | ⟨g,cap,cur,hv,hg,hh,r⟩⟩:=h
 · exact ⟨h1,Or.inl h⟩
 · exact ⟨h1,Or.inr ⟨g,cap,cur,hv,hg,by rw [hb.block g (Nat.lt_of_lt_of_le (lt_of_block hh) hB)];exact hh,r⟩⟩
theorem row_form2S {W:World} {e size:Nat} {xs:List Value} (h:W.ownsRow base e size v n xs):∃ a cap,v=.slice a n cap:=by
 obtain ⟨_,⟨rfl,rfl⟩ | ⟨g,cap,_,rfl,_⟩⟩:=h
 · exact ⟨none,0,rfl⟩
 · exact ⟨some ⟨g,0,none⟩,cap,rfl⟩
theorem strs_one (ss:List ByteArray):∀ u∈ss.map Value.string,u.oneCell'=true:=by
 intro u hu;obtain ⟨x,_,rfl⟩:=List.mem_map.1 hu;rfl
theorem append_strs {ops:Array Oper} {rest:List Oper} {o:Oper} {a:Act} {Q:Exit→Act→World→Prop} {x':Value} {xs ys:List ByteArray} (hgd:o.guard=none) (s x:Operand)
    (ho:o.op=.call { callee:=.builtin .append,args:=#[s,x],argTypes:=#[25,25] }) (hs:a.eval s=v) (hx:a.eval x=x') (hO:OwS base w v xs) (hR:RdS B w x' ys) (hl:(xs.length+ys.length)*16≤140737488355328) (hb:base≤w.heap.size)
    (h:∀ v' w',OwS base w' v' (xs++ys)→w.grownBy w' v.ownBlock→wpList Tryz.prog ops Q rest (a.put o.dst v') w'):wpList Tryz.prog ops Q (o :: rest) a w:=by
 obtain ⟨i0,hi,hz0,hz1,hz2⟩:=info_parts info_strS;obtain ⟨a1,c1,rfl,h2,h3,h3',h4⟩:=hR
 cases a1 with
 | none=>
  have:=h3' rfl;subst this;have:ys=[]:=List.eq_nil_of_length_eq_zero (by omega);subst this;refine wpList_append_own_none hgd s x 25 ho base 9 i0 1 Tryz.underlying25 hi v xs.length (xs.map Value.string) hs hO hx (h v w (by rw [List.append_nil];exact hO) (World.grownBy.refl _ _))
 | some ad=>
  refine wpList_append_own _ hgd s x 25 ho base 9 i0 (.string ⟨#[]⟩) 1 16 Tryz.underlying25 hi hz0 hz1 hz2 rfl (by decide) v xs.length (xs.map Value.string) hs hO ad ys.length c1 (ys.map Value.string) hx (by rw [List.length_map];omega) ?_ (strs_one _) ?_ hl hb ?_
  · rcases h4 with h4 | ⟨g,o',h4,h5,h6⟩
    · subst h4;intro j u hj;simp at hj
    · cases h4
      intro j u hj;have hjl:j<ys.length:=by
       rcases Nat.lt_or_ge j ys.length with h' | h'
       · exact h'
       · rw [List.getElem?_eq_none (by simpa using h')] at hj;cases hj
      rw [getD_mapS hjl] at hj
      cases hj
      have:=h6 j hjl;rw [show (⟨g,o',none⟩:Addr).add j=⟨g,o'+j,none⟩ by cases j <;> simp [Addr.add]];exact this
  · unfold maxLen;omega
  intro v' w2 hown hgrow _;refine h v' w2 ?_ hgrow;unfold OwS;rw [List.length_append,List.map_append];exact hown
theorem rdS_new1 (w:World) (x:ByteArray):RdS (w.heap.size+1) (w.alloc (.cells #[.string x] 9)) (.slice (some ⟨w.heap.size,0,none⟩) 1 1) [x]:=by
 refine ⟨some ⟨w.heap.size,0,none⟩,1,rfl,by simp,by omega,(fun e=>by cases e),Or.inr ⟨w.heap.size,0,rfl,by omega,fun j hj => ?_⟩⟩;have hb:BoxA (w.alloc (.cells #[.string x] 9)) w.heap.size 9 #[.string x]:=boxA_new w #[.string x] 9
 match j,hj with
 | 0,_=>exact hb.cell 0 rfl
theorem boxA_put {ty:Nat} {xs:Array Value} (h:BoxA w B ty xs) (i:Nat) (v:Value):BoxA (w.setCell ⟨B,i,none⟩ v) B ty (xs.setIfInBounds i v):=by
 unfold BoxA at h ⊢;simp [World.setCell,Array.getElem?_modify,h]
theorem sl_nil (w:World) (a:Option Addr) (n c:Nat):(binOp .eql 25 (.slice a n c) (.slice none 0 0)).run Tryz.prog w=.ok (.bool a.isNone) w:=Lib.run_eql_slice_nil w 25 9 a n c 0 0 Tryz.underlying25
theorem owS_empty (w:World):OwS w.heap.size (w.alloc (.cells #[] 9)) (.slice (some ⟨w.heap.size,0,none⟩) 0 0) []:=⟨rfl,Or.inr ⟨w.heap.size,0,#[],rfl,Nat.le_refl _,heap_alloc_new w _,Nat.le_refl _,by unfold maxLen;omega,rfl,rfl⟩⟩
theorem RdS.cap (h:RdS B w (.slice a n c) ss):ss.length≤c∧c≤9223372036854775807:=by
 obtain ⟨a',c',h1,h2,h3,_⟩:=h;obtain ⟨_,_,rfl⟩:=Value.slice.inj h1;exact ⟨h2,h3⟩
theorem clears:∀ (vs:List Value) (o:Nat) {w:World} {cur:Array Value} {ty:Nat},BoxA w g ty cur→∃ cur',BoxA (w.setCells g o vs) g ty cur'∧cur'.size=cur.size∧cur'.toList.take o=cur.toList.take o
 | [],o,w,cur,ty,h=>⟨cur,h,rfl,rfl⟩
 | v :: vs,o,w,cur,ty,h=>by
  obtain ⟨cur',h1,h2,h3⟩:=clears vs (o+1) (boxA_put h o v);refine ⟨cur',h1,by rw [h2];simp,?_⟩;have:=congrArg (List.take o) h3;rw [List.take_take,List.take_take,Nat.min_eq_left (by omega)] at this;rw [this,Array.toList_setIfInBounds,List.take_set_of_le (by omega)]
theorem setCells_grown:∀ (vs:List Value) (o:Nat) {W:World},w.grownBy W (some g)→w.grownBy (W.setCells g o vs) (some g)
 | [],_,_,h=>h
 | v :: vs,o,W,h=>setCells_grown vs (o+1) (W:=W.setCell ⟨g,o,none⟩ v) ⟨h.os,h.tape,h.output,by rw [show (W.setCell ⟨g,o,none⟩ v).heap.size=W.heap.size by simp [World.setCell]];exact h.size,fun k hk hne=>by
     rw [show (W.setCell ⟨g,o,none⟩ v).heap[k]? = W.heap[k]? by
      have:¬ g=k:=fun e=>hne (by rw [e]);simp [World.setCell,Array.getElem?_modify,this]]
     exact h.block k hk hne⟩
end Go.Proofs.YtimfnalpmmkndaaGreatDoor
