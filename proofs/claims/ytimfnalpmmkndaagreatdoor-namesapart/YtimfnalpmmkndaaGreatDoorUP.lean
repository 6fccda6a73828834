/- What a name has stays where another is given a value. -/
import Derived.Test.YtimfnalpmmkndaaGreatDoorNI
import Derived.Test.YtimfnalpmmkndaaGreatDoorRV
set_option linter.unusedVariables false
set_option linter.unusedSimpArgs false
namespace Go.Proofs.YtimfnalpmmkndaaGreatDoor
section
open Go.RowKit
theorem putB_other {x y:ByteArray} (b:Bd) (h:¬ x=y):∀ L:List EntB,hasB x (putB y b L)=hasB x L∧getB x (putB y b L)=getB x L
 | []=>by
  have h':¬ y=x:=fun e=>h e.symm;simp [putB,hasB,getB,h']
 | p :: l=>by
  have h':¬ y=x:=fun e=>h e.symm;rw [putB];by_cases e:p.1=y
  · have e2:¬ p.1=x:=fun e3=>h (e3.symm.trans e)
    rw [if_pos e];simp [hasB,getB,h',e2]
  · rw [if_neg e]
    obtain ⟨h1,h2⟩:=putB_other b h l;rw [hasB,hasB,getB,getB,h1,h2];exact ⟨rfl,rfl⟩
theorem cur_other {T:List FrB} {x y:ByteArray} (G:Bd) (h:¬ x=y) (ht:TOK T):hasB x (curL (setT T y G) x)=hasB x (curL T x)∧getB x (curL (setT T y G) x)=getB x (curL T x):=by
 unfold setT;by_cases e:setE T y G.k=0
 · rw [if_pos e]
   have hp:=posF_set (T:=T) (i:=posF T y) (F:=⟨(T.getD (posF T y) fb0).ls,putB y (cpB G) (curL T y)⟩) rfl x;have hc:curL (T.set (posF T y) ⟨(T.getD (posF T y) fb0).ls,putB y (cpB G) (curL T y)⟩) x=if posF T y=posF T x then putB y (cpB G) (curL T x) else curL T x:=by
    unfold curL at hp ⊢;rw [hp,getD_setG];by_cases e2:posF T y=posF T x
    · rw [if_pos ⟨e2,(ht.cur x).1⟩,if_pos e2,e2]
    · rw [if_neg (fun h'=>e2 h'.1),if_neg e2]
   rw [hc];by_cases e2:posF T y=posF T x
   · rw [if_pos e2];exact putB_other _ h _
   · rw [if_neg e2];exact ⟨rfl,rfl⟩
 · rw [if_neg e];exact ⟨rfl,rfl⟩
theorem var_other {T:List FrB} {x y:ByteArray} (t:Tr) (h:¬ x=y) (ht:TOK T):hasB x (curL (setVarT T y t) x)=hasB x (curL T x)∧getB x (curL (setVarT T y t) x)=getB x (curL T x):=by
 unfold setVarT
 split
 · exact cur_other _ h ht
 · exact ⟨rfl,rfl⟩
end
section
open Go.RowKit
theorem smF_up {D:Nat→Prop} {w:World}:∀ (f f':Nat) (v1 v2:Value) (t:Tr),f≤f'→ArV f D w v1 v2 t→smF f t→smF f' t
 | 0,_,_,_,_,_,h,_=>h.elim
 | f+1,0,_,_,_,hf,_,_=>by omega
 | f+1,f'+1,v1,v2,t,hf,h,hs=>by
  obtain ⟨s1,s2,s3⟩:=hs;refine ⟨s1,s2,fun x hx => ?_⟩;obtain ⟨q1,q2,q3,q4⟩:=s3 x hx;refine ⟨q1,q2,q3,fun y hy => ?_⟩;obtain ⟨j,hj,rfl⟩:=List.mem_iff_getElem.1 hx;obtain ⟨a,cap,_,_,_,_,h4⟩:=h.2;rcases h4 with h4 | ⟨g,o,_,_,hc⟩
  · omega
  · obtain ⟨a1,c1,a2,c2,a3,c3,_,hv⟩:=hc j hj
    rw [List.getD_eq_getElem?_getD,List.getElem?_eq_getElem hj,Option.getD_some] at hv;obtain ⟨i,hi,rfl⟩:=List.mem_iff_getElem.1 hy;obtain ⟨_,_,_,_,_,_,k4⟩:=hv.bx;rcases k4 with k4 | ⟨g2,o2,_,_,hc2⟩
    · omega
    · obtain ⟨x1,n1,y1,x2,n2,y2,_,_,hP⟩:=hc2 i hi
      rw [List.getD_eq_getElem?_getD,List.getElem?_eq_getElem hi,Option.getD_some] at hP;exact smF_up f f' _ _ _ (by omega) hP (q4 _ hy)
theorem DdIs.up {f f':Nat} {D:Nat→Prop} {w:World} {v:DV} {d:Dd} (h:DdIs f D w v d) (hf:f≤f'):DdIs f' D w v d:=by
 obtain ⟨⟨na,nc,x1,y1,x2,y2,b1,z1,b2,z2,b3,z3,b4,z4,e,h1,h2,h3⟩,a,b,c,d,e2⟩:=h;exact ⟨⟨na,nc,x1,y1,x2,y2,b1,z1,b2,z2,b3,z3,b4,z4,e,h1,ArV.imp (fun _ h=>h) (fun _ _=>rfl) (f+1) (f'+1) _ _ _ (by omega) h2,h3⟩,a,smF_up (f+1) (f'+1) _ _ _ (by omega) h2 b,c,d,e2⟩
theorem Deeds.up {f f':Nat} {D:Nat→Prop} {w:World} {v:Value} {L:List Dd} (h:Deeds f D w v L) (hf:f≤f'):Deeds f' D w v L:=
 RowB.imp h (fun _ h=>h) (fun g o j _ _ ⟨x,h1,h2⟩=>⟨x,h1,h2.up hf⟩)
theorem Deeds.imp2 {f:Nat} {D D':Nat→Prop} {w w':World} {v:Value} {L:List Dd} (h:Deeds f D w v L) (hD:∀ g,D g→D' g) (ag:Agree D w w'):Deeds f D' w' v L:=
 RowB.imp h hD (fun g o j hg hj ⟨x,h1,h2⟩=>⟨x,fun k hk=>(ag.cell hg).trans (h1 k hk),h2.imp hD ag⟩)
end
end Go.Proofs.YtimfnalpmmkndaaGreatDoor
