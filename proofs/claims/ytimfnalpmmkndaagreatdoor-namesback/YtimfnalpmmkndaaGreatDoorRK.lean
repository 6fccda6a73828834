/- rat.powerOf. -/
import Derived.Test.YtimfnalpmmkndaaGreatDoorKZ
import Derived.Test.YtimfnalpmmkndaaGreatDoorJ5
import Derived.Test.YtimfnalpmmkndaaGreatDoorJ1
import Derived.Test.YtimfnalpmmkndaaGreatDoorJ8
import Derived.Laws.AppendOwnNone
set_option maxRecDepth 100000
set_option maxHeartbeats 16000000
set_option linter.unusedVariables false
set_option linter.unusedSimpArgs false
namespace Go.Proofs.YtimfnalpmmkndaaGreatDoor
open Go.RowKit
variable {B:Nat} {w:World}
section
variable {w:World} {a1 a2 a3 a4:Option Addr} {c1 c2 c3 c4:Nat} {xn xd yn yd:List Int}
end
def NumAns (w:World) (b:Bool) (ns ds:List Int) (e:Ending) (w':World):Prop:=
 Below w.heap.size w w'∧∃ x1 y1 x2 y2,e=.returned (.agg #[.bool b,.slice x1 ns.length y1,.slice x2 ds.length y2])∧Own w.heap.size w' (.slice x1 ns.length y1) ns∧Own w.heap.size w' (.slice x2 ds.length y2) ds
section
variable {w:World} {b:Bool} {a1 a2:Option Addr} {c1 c2:Nat} {ns ds:List Int}
theorem in1_new (w:World) (h1:Rd w.heap.size w (.slice a1 ns.length c1) ns) (h2:Rd w.heap.size w (.slice a2 ds.length c2) ds) :
    NVar ((w.alloc (.cells #[.bool b,.slice a1 ns.length c1,.slice a2 ds.length c2] 110)).alloc (.cells #[.bool false,.slice none 0 0,.slice none 0 0] 110)) w.heap.size b a1 ns c1 a2 ds c2∧RVar ((w.alloc (.cells #[.bool b,.slice a1 ns.length c1,.slice a2 ds.length c2] 110)).alloc (.cells #[.bool false,.slice none 0 0,.slice none 0 0] 110)) (w.heap.size+1)∧Below w.heap.size w ((w.alloc (.cells #[.bool b,.slice a1 ns.length c1,.slice a2 ds.length c2] 110)).alloc (.cells #[.bool false,.slice none 0 0,.slice none 0 0] 110)):=by
 have X:=nvar_new (b:=b) h1 h2;have R:=rvar_new (w.alloc (.cells #[.bool b,.slice a1 ns.length c1,.slice a2 ds.length c2] 110));have ka:=below_alloc (w.alloc (.cells #[.bool b,.slice a1 ns.length c1,.slice a2 ds.length c2] 110)) (.cells #[.bool false,.slice none 0 0,.slice none 0 0] 110);rw [World.size_alloc] at R;exact ⟨X.below ka,R,(below_alloc w _).alloc (by simp) _⟩
end
theorem rd_parts {a:Option Addr} {c:Nat} {xs:List Int} (h:Rd B w (.slice a xs.length c) xs):(a=none∧xs=[]∧c=0)∨∃ ad,a=some ad∧∀ j u,(xs.map (Value.int .u32))[j]? = some u→w.cell? (ad.add j)=some u:=by
 obtain ⟨_,a',c',e,h1,h2,h3,h4⟩:=h;have ea:a'=a∧c'=c:=by cases e;exact ⟨rfl,rfl⟩
 obtain ⟨rfl,rfl⟩:=ea
 cases a' with
 | none=>
  have:=h3 rfl;subst this;exact Or.inl ⟨rfl,List.eq_nil_of_length_eq_zero (by omega),rfl⟩
 | some ad=>
  refine Or.inr ⟨ad,rfl,?_⟩;rcases h4 with h4 | ⟨b,off,e2,_,hc⟩
  · have:xs=[]:=List.eq_nil_of_length_eq_zero h4
    subst this;intro j u h;simp at h
  · cases e2
    exact cells_news hc
theorem append_nil_rd {ops:Array Oper} {rest:List Oper} {o:Oper} {a:Act} {Q:Exit→Act→World→Prop} {a1:Option Addr} {c1:Nat} {ns:List Int} (hgd:o.guard=none) (s x:Operand)
    (ho:o.op=.call { callee:=.builtin .append,args:=#[s,x],argTypes:=#[108,108] }) (hs:a.eval s=.slice none 0 0) (hx:a.eval x=.slice a1 ns.length c1) (hR:Rd B w (.slice a1 ns.length c1) ns) (hl:ns.length*4≤140737488355328)
    (h:∀ x1 y1 w',Own w.heap.size w' (.slice x1 ns.length y1) ns→Below w.heap.size w w'→wpList Tryz.prog ops Q rest (a.put o.dst (.slice x1 ns.length y1)) w'):wpList Tryz.prog ops Q (o :: rest) a w:=by
 obtain ⟨i0,hi,hz0,hz1,hz2⟩:=info_parts info_u32;have hlim:=hR.lim;rcases rd_parts hR with ⟨rfl,rfl,rfl⟩ | ⟨ad,rfl,hN⟩
 · exact wpList_append_own_none hgd s x 108 ho w.heap.size 196 i0 1 Tryz.underlying108 hi (.slice none 0 0) 0 [] hs (World.ownsRow_nil _ _ _ _) hx (h none 0 w ⟨lim_nil,World.ownsRow_nil _ _ _ _⟩ (Below.refl _ _))
 · refine wpList_append_own _ hgd s x 108 ho w.heap.size 196 i0 (.int .u32 0) 1 4 Tryz.underlying108 hi hz0 hz1 hz2 rfl (by decide) (.slice none 0 0) 0 [] hs (World.ownsRow_nil _ _ _ _) ad ns.length c1 (ns.map (Value.int .u32)) hx (by rw [List.length_map];omega) hN (ints_oneCell _ _) ?_ ?_ (Nat.le_refl _) ?_
   · unfold maxLen;omega
   · omega
   intro v' w2 hown hgrow _;rw [Nat.zero_add,List.nil_append] at hown;have o1:Own w.heap.size w2 v' ns:=⟨hlim,hown⟩;obtain ⟨x1,y1,rfl⟩:=o1.form;exact h x1 y1 w2 o1 ((Below.refl _ _).grown hgrow (Nat.le_refl _) (fun k h=>by cases h))
theorem Box3.set1 {ty:Nat} {p q r:Value} (h:Box3 w B ty p q r) (x:Value):Box3 (w.setCell ⟨B,1,none⟩ x) B ty p x r:=by
 unfold Box3 at h ⊢;simp [World.setCell,Array.getElem?_modify,h]
theorem Box3.set2 {ty:Nat} {p q r:Value} (h:Box3 w B ty p q r) (x:Value):Box3 (w.setCell ⟨B,2,none⟩ x) B ty p q x:=by
 unfold Box3 at h ⊢;simp [World.setCell,Array.getElem?_modify,h]
section
variable {w:World} {b:Bool} {a1 a2:Option Addr} {c1 c2:Nat} {ns ds:List Int}
theorem refCopy_any (h1:Rd w.heap.size w (.slice a1 ns.length c1) ns) (h2:Rd w.heap.size w (.slice a2 ds.length c2) ds) (l1:ns.length*4≤140737488355328) (l2:ds.length*4≤140737488355328) :
    Calls Tryz.prog 137 #[.agg #[.bool b,.slice a1 ns.length c1,.slice a2 ds.length c2]] w fun e w'=>NumAns w b ns ds e w':=by
 obtain ⟨X,R,g⟩:=in1_new (b:=b) w h1 h2;have s1:w.heap.size≤w.heap.size+1:=by omega
 clear h1 h2;have t1:=below_alloc ((w.alloc (.cells #[.bool b,.slice a1 ns.length c1,.slice a2 ds.length c2] 110)).alloc (.cells #[.bool false,.slice none 0 0,.slice none 0 0] 110)) (.cells #[.bool b,.slice none 0 0,.slice none 0 0] 110);have hvs:((w.alloc (.cells #[.bool b,.slice a1 ns.length c1,.slice a2 ds.length c2] 110)).alloc (.cells #[.bool false,.slice none 0 0,.slice none 0 0] 110)).heap.size=w.heap.size+1+1:=by rw [World.size_alloc,World.size_alloc]
 have Yb:=box3_new ((w.alloc (.cells #[.bool b,.slice a1 ns.length c1,.slice a2 ds.length c2] 110)).alloc (.cells #[.bool false,.slice none 0 0,.slice none 0 0] 110)) (.bool b) (.slice none 0 0) (.slice none 0 0) 110;rw [hvs] at Yb;have Ylt:w.heap.size+1+1<(((w.alloc (.cells #[.bool b,.slice a1 ns.length c1,.slice a2 ds.length c2] 110)).alloc (.cells #[.bool false,.slice none 0 0,.slice none 0 0] 110)).alloc (.cells #[.bool b,.slice none 0 0,.slice none 0 0] 110)).heap.size:=by rw [World.size_alloc _ (.cells #[.bool b,.slice none 0 0,.slice none 0 0] 110),hvs];omega
 have x0:=X.k0;obtain ⟨X0,X1,X2⟩:=(X.below t1).cells;have y0:=Yb.c0;have y1:=Yb.c1;have y2:=Yb.c2;have z0:=Yb.f0;have z1:=Yb.f1;have z2:=Yb.f2;go_enter Tryz.func137,Tryz.ntmps137
 go_wp2_with (at_builtin;refine append_nil_rd rfl _ _ rfl rfl rfl (X.below t1).rn l1 ?_)
 intro x5 y5 w2 o1' k1';have o1:Own (((w.alloc (.cells #[.bool b,.slice a1 ns.length c1,.slice a2 ds.length c2] 110)).alloc (.cells #[.bool false,.slice none 0 0,.slice none 0 0] 110)).alloc (.cells #[.bool b,.slice none 0 0,.slice none 0 0] 110)).heap.size w2 (.slice x5 ns.length y5) ns:=by simpa using o1'
 have k1:Below (((w.alloc (.cells #[.bool b,.slice a1 ns.length c1,.slice a2 ds.length c2] 110)).alloc (.cells #[.bool false,.slice none 0 0,.slice none 0 0] 110)).alloc (.cells #[.bool b,.slice none 0 0,.slice none 0 0] 110)).heap.size (((w.alloc (.cells #[.bool b,.slice a1 ns.length c1,.slice a2 ds.length c2] 110)).alloc (.cells #[.bool false,.slice none 0 0,.slice none 0 0] 110)).alloc (.cells #[.bool b,.slice none 0 0,.slice none 0 0] 110)) w2:=by simpa using k1'
 clear o1' k1';generalize hA:((w.alloc (.cells #[.bool b,.slice a1 ns.length c1,.slice a2 ds.length c2] 110)).alloc (.cells #[.bool false,.slice none 0 0,.slice none 0 0] 110))=v at *;clear hA;generalize hA:v.alloc (.cells #[.bool b,.slice none 0 0,.slice none 0 0] 110)=v1 at *;clear hA x0 X0 X1 X2 y0 y1 y2 z0 z1 z2;have Y2:=Yb.below k1 Ylt;have z1:=Y2.f1;have y1:=Y2.c1;have t2:Below v.heap.size v (w2.setCell ⟨w.heap.size+1+1,1,none⟩ (.slice x5 ns.length y5)):=(t1.trans (k1.mono t1.size)).setCell (p:=⟨w.heap.size+1+1,1,none⟩) (Nat.le_of_eq hvs) _;have Y3:=Y2.set1 (.slice x5 ns.length y5);have o2:Own v1.heap.size (w2.setCell ⟨w.heap.size+1+1,1,none⟩ (.slice x5 ns.length y5)) (.slice x5 ns.length y5) ns:=o1.setCell (a:=⟨w.heap.size+1+1,1,none⟩) (ownBlock_ne o1 Ylt) _;have s2:v1.heap.size≤(w2.setCell ⟨w.heap.size+1+1,1,none⟩ (.slice x5 ns.length y5)).heap.size:=by
  have:=k1.size;simpa [World.setCell] using this
 have y2:=Y3.c2;obtain ⟨X0,X1,X2⟩:=(X.below t2).cells
 go_wp2_with (at_builtin;refine append_nil_rd rfl _ _ rfl rfl rfl (X.below t2).rd l2 ?_)
 intro x6 y6 w4 o3' k3';have o3:Own (w2.setCell ⟨w.heap.size+1+1,1,none⟩ (.slice x5 ns.length y5)).heap.size w4 (.slice x6 ds.length y6) ds:=by simpa using o3'
 have k3:Below (w2.setCell ⟨w.heap.size+1+1,1,none⟩ (.slice x5 ns.length y5)).heap.size (w2.setCell ⟨w.heap.size+1+1,1,none⟩ (.slice x5 ns.length y5)) w4:=by simpa using k3'
 clear o3' k3';generalize hA:w2.setCell ⟨w.heap.size+1+1,1,none⟩ (.slice x5 ns.length y5)=w3 at *;clear hA z1 y1 y2 X0 X1 X2 o1 k1 Y2;have Ylt3:w.heap.size+1+1<w3.heap.size:=Nat.lt_of_lt_of_le Ylt s2;have Y4:=Y3.below k3 Ylt3;have z2:=Y4.f2;have y3:=Y4.c2;have o4:=o2.below k3 (Nat.le_refl _);have Y5:=Y4.set2 (.slice x6 ds.length y6);have t3:Below v.heap.size v (w4.setCell ⟨w.heap.size+1+1,2,none⟩ (.slice x6 ds.length y6)):=(t2.trans (k3.mono t2.size)).setCell (p:=⟨w.heap.size+1+1,2,none⟩) (Nat.le_of_eq hvs) _;have o5:Own v1.heap.size (w4.setCell ⟨w.heap.size+1+1,2,none⟩ (.slice x6 ds.length y6)) (.slice x5 ns.length y5) ns:=o4.setCell (a:=⟨w.heap.size+1+1,2,none⟩) (ownBlock_ne o4 Ylt) _;have o6:Own w3.heap.size (w4.setCell ⟨w.heap.size+1+1,2,none⟩ (.slice x6 ds.length y6)) (.slice x6 ds.length y6) ds:=o3.setCell (a:=⟨w.heap.size+1+1,2,none⟩) (ownBlock_ne o3 Ylt3) _;have y0:=Y5.c0;have y1:=Y5.c1;have y2:=Y5.c2;have R5:=R.below t3;have q0:=R5.box.c0;have q1:=R5.box.c1;have q2:=R5.box.c2;have p0:=R5.box.f0;have p1:=R5.box.f1;have p2:=R5.box.f2;go_wp2
 have hR3:=R5.box.set (.bool b) (.slice x5 ns.length y5) (.slice x6 ds.length y6);have r0:=hR3.c0;have r1:=hR3.c1;have r2:=hR3.c2;have RL1:w.heap.size+1<v1.heap.size:=Nat.lt_of_lt_of_le R.lt t1.size;have RL3:w.heap.size+1<w3.heap.size:=Nat.lt_of_lt_of_le RL1 s2;have hw1:w.heap.size≤v1.heap.size:=Nat.le_trans g.size t1.size;refine bodyPost_ret (v:=.agg #[.bool b,.slice x5 ns.length y5,.slice x6 ds.length y6]) (by simp [results,Tryz.results137,go_sem,r0,r1,r2]) rfl ?_;exact ⟨Below.set3 (g.trans (t3.mono g.size)) s1 _ _ _,x5,y5,x6,y6,rfl,(Own.set3 o5 RL1 _ _ _).mono hw1,(Own.set3 o6 RL3 _ _ _).mono (Nat.le_trans hw1 s2)⟩
end
end Go.Proofs.YtimfnalpmmkndaaGreatDoor
