/- A map's entries, gone through in whatever order, each put into another map. -/
import Derived.Test.YtimfnalpmmkndaaGreatDoorNI
import Derived.Test.YtimfnalpmmkndaaGreatDoorUP
import Derived.Test.YtimfnalpmmkndaaGreatDoorNC
import Derived.Test.YtimfnalpmmkndaaGreatDoorNE
import Derived.Test.YtimfnalpmmkndaaGreatDoorNF
import Derived.Test.YtimfnalpmmkndaaGreatDoorNG
import Derived.Maps.RangeRun
set_option maxRecDepth 100000
set_option maxHeartbeats 16000000
set_option linter.unusedVariables false
set_option linter.unusedSimpArgs false
namespace Go.Proofs.YtimfnalpmmkndaaGreatDoor
section
open Go.RowKit
theorem cpB_twice (b:Bd):cpB (cpB b)=cpB b:=by
 unfold cpB cpT;by_cases h:(measF 16 b.t).isSome=true
 · simp only [if_pos h]
 · simp only [if_neg h]
   split <;> rfl
theorem map_inj1 {α β:Type} {g:α→β}:∀ {l:List α},(l.map g).Nodup→∀ {x y:α},x∈l→y∈l→g x=g y→x=y
 | [],_,_,_,hx,_,_=>by cases hx
 | a :: l,h,x,y,hx,hy,e=>by
  rw [List.map_cons,List.nodup_cons] at h;rcases List.mem_cons.1 hx with hx1 | hx1
  · rcases List.mem_cons.1 hy with hy1 | hy1
    · rw [hx1,hy1]
    · exact absurd (List.mem_map.2 ⟨y,hy1,by rw [← e,hx1]⟩) h.1
  · rcases List.mem_cons.1 hy with hy1 | hy1
    · exact absurd (List.mem_map.2 ⟨x,hx1,by rw [e,hy1]⟩) h.1
    · exact map_inj1 h.2 hx1 hy1 e
def SayB (L' L:List EntB):Prop:=∀ x,hasB x L'=hasB x L∧cpB (getB x L')=cpB (getB x L)
theorem ents_mem {f:Nat} {D:Nat→Prop} {w:World}:∀ {El:List MapEntry} {l:List EntS} {L:List EntB},El.map (fun x=>(x.key,x.val))=l.map (fun p=>(Value.string p.1,p.2))→EntsIs f D w l L→(L.map (·.1)).Nodup→∀ e∈El,∃ (x:ByteArray) (v:BV),e.key=.string x∧e.val=.agg v.cells∧BndIs f D w v (getB x L)∧hasB x L=true
 | [],_,_,_,_,_,e,he=>by cases he
 | _ :: _,[],_,h,_,_,_,_=>by simp at h
 | _ :: _,_ :: _,[],_,h,_,_,_=>h.elim
 | c :: El,p :: l,q :: L,h,⟨h1,⟨v,h2,h3⟩,h4⟩,hn,e,he=>by
  simp only [List.map_cons,List.cons.injEq,Prod.mk.injEq] at h;obtain ⟨⟨g1,g2⟩,g3⟩:=h;rw [List.map_cons,List.nodup_cons] at hn;rcases List.mem_cons.1 he with rfl | he
  · exact ⟨q.1,v,by rw [g1,h1],by rw [g2,h2],by rw [getB,if_pos rfl];exact h3,by rw [hasB,if_pos rfl]⟩
  · obtain ⟨x,u,k1,k2,k3,k4⟩:=ents_mem g3 h4 hn.2 e he
    have hne:¬ q.1=x:=fun e2=>hn.1 (by rw [e2];exact hasB_iff.1 k4);exact ⟨x,u,k1,k2,by rw [getB,if_neg hne];exact k3,by rw [hasB,if_neg hne];exact k4⟩
theorem ents_keys {f:Nat} {D:Nat→Prop} {w:World}:∀ {El:List MapEntry} {l:List EntS} {L:List EntB},El.map (fun x=>(x.key,x.val))=l.map (fun p=>(Value.string p.1,p.2))→EntsIs f D w l L→El.map (·.key)=L.map (fun q=>Value.string q.1)
 | [],[],[],_,_=>rfl
 | [],_ :: _,_,h,_=>by simp at h
 | _ :: _,[],_,h,_=>by simp at h
 | [],[],_ :: _,_,h=>h.elim
 | _ :: _,_ :: _,[],_,h=>h.elim
 | c :: El,p :: l,q :: L,h,⟨h1,_,h4⟩=>by
  simp only [List.map_cons,List.cons.injEq,Prod.mk.injEq] at h;obtain ⟨⟨g1,_⟩,g3⟩:=h;rw [List.map_cons,List.map_cons,ents_keys g3 h4,g1,h1]
theorem keys_nd:∀ {L:List EntB},(L.map (·.1)).Nodup→(L.map (fun q=>Value.string q.1)).Nodup
 | [],_=>by simp
 | q :: L,h=>by
  rw [List.map_cons,List.nodup_cons] at h ⊢;refine ⟨fun hm=>h.1 ?_,keys_nd h.2⟩;obtain ⟨p,hp,e⟩:=List.mem_map.1 hm;exact List.mem_map.2 ⟨p,hp,Value.string.inj e⟩
structure PartB (E:List MapEntry) (seen:Array Nat) (L' L:List EntB):Prop where
 sub:∀ x,hasB x L'=true→hasB x L=true
 at':∀ e∈E,∀ x,e.key=.string x→seen.contains e.born=hasB x L'∧(hasB x L'=true→cpB (getB x L')=cpB (getB x L))
theorem partB_nil (E:List MapEntry) (L:List EntB):PartB E #[] [] L:=⟨fun x h=>by simp [hasB] at h,fun e _ x _=>⟨by simp [hasB],fun h=>by simp [hasB] at h⟩⟩
theorem hasB_put {x y:ByteArray} (b:Bd):∀ L:List EntB,hasB x (putB y b L)=true↔x=y∨hasB x L=true:=fun L=>by
 by_cases h:x=y
 · subst h
   refine ⟨fun _=>Or.inl rfl,fun _=>hasB_iff.2 ?_⟩;rw [putB_keys];by_cases e:hasB x L=true
   · rw [if_pos e];exact hasB_iff.1 e
   · rw [if_neg e];simp
 · rw [(putB_other b h L).1]
   exact ⟨Or.inr,fun e=>e.resolve_left h⟩
theorem getB_put {y:ByteArray} (b:Bd):∀ L:List EntB,getB y (putB y b L)=b
 | []=>by rw [putB,getB,if_pos rfl]
 | p :: l=>by
  rw [putB];by_cases e:p.1=y
  · rw [if_pos e,getB,if_pos rfl]
  · rw [if_neg e,getB,if_neg e,getB_put b l]
theorem PartB.push {E:List MapEntry} {seen:Array Nat} {L' L:List EntB} (h:PartB E seen L' L) (hn:(E.map (·.born)).Nodup) (hk:(E.map (·.key)).Nodup) {e:MapEntry} (he:e∈E) {x:ByteArray} (hx:e.key=.string x) (hL:hasB x L=true):PartB E (seen.push e.born) (putB x (cpB (getB x L)) L') L:=by
 refine ⟨fun z hz => ?_,fun e2 he2 z hz => ?_⟩
 · rcases (hasB_put _ _).1 hz with rfl | hz
   · exact hL
   · exact h.sub z hz
 · obtain ⟨g1,g2⟩:=h.at' e2 he2 z hz
   by_cases hzx:z=x
   · subst hzx
     obtain rfl:e2=e:=map_inj1 hk he2 he (by rw [hz,hx]);refine ⟨?_,fun _ => ?_⟩
     · rw [(hasB_put (x:=z) (y:=z) _ _).2 (Or.inl rfl),contains_push];simp
     · rw [getB_put,cpB_twice]
   · have hb:(e2.born==e.born)=false:=by
      rw [beq_eq_false_iff_ne];intro hb;have:e2=e:=map_inj1 hn he2 he hb;rw [this,hx] at hz;exact hzx (Value.string.inj hz).symm
     obtain ⟨p1,p2⟩:=putB_other (x:=z) (y:=x) (cpB (getB x L)) hzx L';rw [p1,p2,contains_push,hb,Bool.or_false];exact ⟨g1,g2⟩
theorem PartB.all {E:Array MapEntry} {seen:Array Nat} {L' L:List EntB} (h:PartB E.toList seen L' L) (hk:E.toList.map (·.key)=L.map (fun q=>Value.string q.1)) (h0:(leftOf E seen).size=0):SayB L' L:=by
 intro x
 cases hx:hasB x L with
 | true=>
  have hm:Value.string x∈E.toList.map (·.key):=by
   rw [hk];obtain ⟨q,hq,e⟩:=List.mem_map.1 (hasB_iff.1 hx);exact List.mem_map.2 ⟨q,hq,by rw [e]⟩
  obtain ⟨e,he,hek⟩:=List.mem_map.1 hm;obtain ⟨g1,g2⟩:=h.at' e he x hek;rw [all_seen E seen h0 e he] at g1;exact ⟨g1.symm,g2 g1.symm⟩
 | false=>
  have hx':hasB x L'=false:=by
   cases e:hasB x L' with
   | false=>rfl
   | true=>rw [h.sub x e] at hx;cases hx
  exact ⟨hx',by rw [getB_no hx',getB_no hx]⟩
end
section
open Go.RowKit
open Go.ChangeMaps (setBlock)
attribute [local go_sem] Oper.semAt_some
def Fr3 (n m a b:Nat) (mb:Option Nat):Nat→Prop:=fun g=>Fr n m g∧g≠a∧g≠b∧mb≠some g
def CopdIs (f n:Nat) (ls:List ByteArray) (L:List EntB) (e:Ending) (w':World):Prop:=
 ∃ a c mb l L',e=.returned (.agg #[.slice a (List.length ls) c,.map mb])∧RdT (Fr n w'.heap.size) w' (.slice a ls.length c) ls∧FrM w' mb l∧(∀ B,mb=some B→Fr n w'.heap.size B)∧EntsIs f (Fr n w'.heap.size) w' l L'∧SayB L' L
theorem frame_zero (w:World):(zeroValue 74).run Tryz.prog w=.ok (.agg #[.slice none 0 0,.map none]) w:=by kernel_rfl
theorem BoxA.set1x {w:World} {R ty:Nat} {u0 u1:Value} (h:BoxA w R ty #[u0,u1]) (u:Value):BoxA (w.setCell ⟨R,1,none⟩ u) R ty #[u0,u]:=by
 unfold BoxA at h ⊢;simp [World.setCell,Array.getElem?_modify,h]
theorem kp_belowX {B C:Nat} {w w':World} (h:Kp B w w') (hC:C≤B) (hs:C≤w.heap.size):Below C w w':=⟨h.os,h.tape,h.output,h.size,fun g hg=>h.block g (by omega) (by omega)⟩
theorem set_oth {w:World} {b i:Nat} (v:Value) {g:Nat} (hg:¬ g=b):(w.setCell ⟨b,i,none⟩ v).heap[g]? = w.heap[g]?:=by simp [World.setCell,Array.getElem?_modify,Ne.symm hg]
theorem kp_block {w wd:World} {r:Nat} (o:Obj) (h:wd=w∨wd=w.drew):Kp r w (setBlock wd r o)∧(setBlock wd r o).heap.size=w.heap.size∧(r<w.heap.size→(setBlock wd r o).heap[r]? = some o):=by
 have e:wd.heap=w.heap∧wd.os=w.os∧wd.tape=w.tape∧wd.output=w.output:=by rcases h with rfl | rfl <;> exact ⟨rfl,rfl,rfl,rfl⟩
 obtain ⟨e1,e2,e3,e4⟩:=e;have h0:(setBlock wd r o).heap=w.heap.setIfInBounds r o:=by rw [← e1];rfl
 refine ⟨⟨e2,e3,e4,by rw [h0];simp,fun g _ hg=>by rw [h0,Array.getElem?_setIfInBounds,if_neg (Ne.symm hg)]⟩,by rw [h0];simp,fun hr=>by rw [h0,Array.getElem?_setIfInBounds,if_pos rfl,if_pos hr]⟩
def CI (f lo:Nat) (w2:World) (ob r B n:Nat) (E:Array MapEntry) (ls:List ByteArray) (a':Option Addr) (c':Nat) (L:List EntB) (wr:World):Prop:=
 ∃ seen mb l' L',wr.heap[r]? = some (.mapIter (some B) n seen n)∧BoxA wr ob 74 #[.slice a' ls.length c',.map mb]∧FrM wr mb l'∧(∀ g,mb=some g→r<g∧g<wr.heap.size)∧EntsIs f (Fr3 lo wr.heap.size ob r mb) wr l' L'∧PartB E.toList seen L' L∧Below w2.heap.size w2 wr
theorem EntsIs.nil_l {f:Nat} {D:Nat→Prop} {w:World} {L:List EntB} (h:EntsIs f D w [] L):L=[]:=by
 cases L with
 | nil=>rfl
 | cons _ _=>exact h.elim
theorem copied_some {f:Nat} {D:Nat→Prop} {w:World} {b o:Nat} {a:Option Addr} {c:Nat} {ls:List ByteArray} {B:Nat} {l:List EntS} {L:List EntB} (hc0:w.cell? ⟨b,o,none⟩=some (.slice a ls.length c)) (hc1:w.cell? ⟨b,o+1,none⟩=some (.map (some B))) (hb:b<w.heap.size) (hls:RdT D w (.slice a ls.length c) ls) (h64:ls.length≤64) (hM:MapS w B l) (hE:EntsIs f D w l L) (hn:(L.map (·.1)).Nodup) (hD:∀ g,D g→g<w.heap.size) :
    Calls Tryz.prog 40 #[.pointer (some ⟨b,o,none⟩)] w fun e w'=>CopdIs f w.heap.size ls L e w'∧Below w.heap.size w w':=by
 have e1:=below_alloc w (.cells #[.slice none 0 0,.map none] 74);have R1:=boxA_new w #[.slice none 0 0,.map none] 74;obtain ⟨w1,hw1⟩:∃ w1,w.alloc (.cells #[.slice none 0 0,.map none] 74)=w1:=⟨_,rfl⟩;rw [hw1] at e1 R1;have s1:w1.heap.size=w.heap.size+1:=by rw [← hw1];simp
 have q0:=(e1.cell (p:=⟨b,o,none⟩) hb).trans hc0;have q1:=(e1.cell (p:=⟨b,o+1,none⟩) hb).trans hc1;have HLS:Hid (RdT D w1 (.slice a ls.length c) ls∧∀ g,D g→g<w1.heap.size):=⟨hls.imp (fun _ h=>h) (fun g hg=>e1.block g (hD g hg)),fun g hg=>by have:=hD g hg;omega⟩;obtain ⟨E,n,hB,hEl,hn1,hn2⟩:=hM;have HEK:Hid (E.toList.map (·.key)=L.map (fun q=>Value.string q.1)):=ents_keys hEl hE;have HMEM:Hid (∀ e∈E.toList,∃ (x:ByteArray) (v:BV),e.key=.string x∧e.val=.agg v.cells∧BndIs f D w v (getB x L)∧hasB x L=true):=ents_mem hEl hE hn;have HB:Hid (w.heap[B]? = some (.map E n)∧B<w.heap.size):=⟨hB,lt_of_block hB⟩;have HN:Hid ((E.toList.map (·.born)).Nodup∧(∀ x∈E.toList,x.born<n)∧(E.toList.map (·.key)).Nodup):=⟨hn1,hn2,by rw [HEK.out];exact keys_nd hn⟩;have HD:Hid (∀ g,D g→g<w.heap.size):=hD;clear hc0 hc1 hls hB hEl hn1 hn2 hE hn hD;go_enter Tryz.func40,Tryz.ntmps40
 go_upto_region 1 with fail
 (try (rw [hw1]))
 clear hw1
 go_wp2_with fail
 refine (cloneT_any HLS.out.1 HLS.out.2 (by omega)).mono ?_;rintro e w2 ⟨a',c',rfl,hL2,k2⟩;have K2:Below w.heap.size w w2:=e1.trans (k2.mono (by omega));have R2:=R1.below k2 (by omega);have e3:=below_alloc w2 (.cells #[.slice a' ls.length c',.map none] 74);have O3:=boxA_new w2 #[.slice a' ls.length c',.map none] 74;have s2:=k2.size
 go_upto_region 2 with fail
 generalize hw3:w2.alloc (.cells #[.slice a' ls.length c',.map none] 74)=w3 at *;have HS3:Hid (w3.heap.size=w2.heap.size+1):=by rw [← hw3];unfold Hid;simp
 clear hw3;have K23:Below w2.heap.size w2 w3:=e3;have hB3:w3.heap[B]? = some (.map E n):=((K2.trans (e3.mono (by omega))).block B HB.out.2).trans HB.out.1;have q2:=((k2.trans (e3.mono k2.size)).cell (p:=⟨b,o+1,none⟩) (by show b<w1.heap.size;omega)).trans q1;have hrg:=run_range_map (P:=Tryz.prog) w3 72 _ _ B E n und_map hB3;have e4:=below_alloc w3 (.mapIter (some B) n #[] n);have hR4:=heap_alloc_new w3 (.mapIter (some B) n #[] n);obtain ⟨ob,hob⟩:∃ ob,w2.heap.size=ob:=⟨_,rfl⟩;have HOB:Hid (w2.heap.size=ob):=hob;rw [hob] at O3 ⊢;have O4:=O3.below e4 O3.lt;clear q0 q1 hob
 go_wp2_with fail
 generalize hw4:w3.alloc (.mapIter (some B) n #[] n)=w4 at *;clear hw4 hrg;obtain ⟨r,hr⟩:∃ r,w3.heap.size=r:=⟨_,rfl⟩;have HR3:Hid (w3.heap.size=r):=hr;rw [hr] at hR4 ⊢;have K24:Below w2.heap.size w2 w4:=K23.trans (e4.mono (by have:=HS3.out;omega));have HI:Hid (CI f w1.heap.size w2 ob r B n E ls a' c' L w4):=⟨#[],none,[],[],hR4,O4,Or.inl ⟨rfl,rfl⟩,(fun g hg=>by cases hg),trivial,partB_nil _ _,K24⟩;have HL2:Hid (RdT (Fr w1.heap.size w2.heap.size) w2 (.slice a' ls.length c') ls):=hL2;have HK2:Hid (Below w.heap.size w w2):=K2;have HSZ:Hid (w1.heap.size=w.heap.size+1∧w1.heap.size≤w2.heap.size∧ob=w2.heap.size∧r=ob+1):=⟨s1,s2,HOB.out.symm,by have:=HS3.out;have:=HR3.out;have:=HOB.out;omega⟩;have HR2:Hid (BoxA w2 w.heap.size 74 #[.slice none 0 0,.map none]):=R2;clear hL2 K2 s1 s2 HS3 HR3 HOB hr R2 O3 O4 R1 e1 e3 e4 k2 K23 K24 hR4 hB3 q2 hb HLS
 go_loopw [4] (fun _ wr=>Hid (CI f w1.heap.size w2 ob r B n E ls a' c' L wr)) (fun _ wr=>(leftOf E (wr.iterSeen r)).size)
 case atStart=>exact HI
 case round=>
  have HI':=hrel;obtain ⟨seen,mb,l',L',hR,hO,hM,hmb,hE,hP,k⟩:=HI'.out;obtain ⟨z1,z2,z3,z4⟩:=HSZ.out;have kw:Below w.heap.size w wr:=HK2.out.trans (k.mono HK2.out.size);have hbB:wr.heap[B]? = some (.map E n):=(kw.block B HB.out.2).trans HB.out.1;have hrl:=lt_of_block hR;rcases run_next_at (P:=Tryz.prog) wr 0 r B n n seen E n hR hbB HN.out.2.1 (Nat.le_refl n) with ⟨h0,hnx0⟩ | ⟨en,he,wd,hwd,hnx0⟩
  · have hnx:∀ ty,(Instr.next (.pointer (some ⟨r,0,none⟩)) false ty).run Tryz.prog wr=.ok (.tuple #[.bool false]) wr:=fun _=>hnx0
    clear hnx0;have HS:Hid (SayB L' L):=hP.all HEK.out h0;obtain ⟨y0,y1⟩:wr.cell? ⟨ob,0,none⟩=some (.slice a' ls.length c')∧wr.cell? ⟨ob,1,none⟩=some (.map mb):=⟨hO.cell 0 rfl,hO.cell 1 rfl⟩;have hRR:=HR2.out.below k (by have:=HK2.out.size;omega);have v0:=hRR.cell 0 rfl;have v1:=hRR.cell 1 rfl;have u0:=hRR.frozen 0;have u1:=hRR.frozen 1;have Z:=hRR.set2 (.slice a' ls.length c') (.map mb);have oth:∀ g,w.heap.size<g→((wr.setCell ⟨w.heap.size,0,none⟩ (.slice a' ls.length c')).setCell ⟨w.heap.size,1,none⟩ (.map mb)).heap[g]? = wr.heap[g]?:=fun g hg=>(set_oth _ (by omega)).trans (set_oth _ (by omega));have KZ:Below w.heap.size w ((wr.setCell ⟨w.heap.size,0,none⟩ (.slice a' ls.length c')).setCell ⟨w.heap.size,1,none⟩ (.map mb)):=(kw.setCell (Nat.le_refl _) _).setCell (Nat.le_refl _) _;have sz:((wr.setCell ⟨w.heap.size,0,none⟩ (.slice a' ls.length c')).setCell ⟨w.heap.size,1,none⟩ (.map mb)).heap.size=wr.heap.size:=by simp [World.setCell]
    obtain ⟨wf,hwf⟩:∃ wf,(wr.setCell ⟨w.heap.size,0,none⟩ (.slice a' ls.length c')).setCell ⟨w.heap.size,1,none⟩ (.map mb)=wf:=⟨_,rfl⟩;rw [hwf] at Z oth KZ sz;have HF:Hid (CopdIs f w.heap.size ls L (.returned (.agg #[.slice a' ls.length c',.map mb])) wf):=by
     refine ⟨a',c',mb,l',L',rfl,HL2.out.imp (fun g hg=>⟨by have:=hg.1;omega,by have:=hg.2;have:=k.size;omega⟩) (fun g hg=>(oth g (by have:=hg.1;omega)).trans (k.block g hg.2)),hM.kept (fun g hg=>oth g (by have:=(hmb g hg).1;omega)),fun g hg=>⟨by have:=(hmb g hg).1;omega,by have:=(hmb g hg).2;omega⟩,hE.imp (fun g hg=>⟨by have:=hg.1.1;omega,by have:=hg.1.2;omega⟩) (fun g hg=>oth g (by have:=hg.1.1;omega)),HS.out⟩
    have HKZ:Hid (Below w.heap.size w wf):=KZ;clear hP hE hM hmb hO hR hbB h0 k kw HS oth KZ sz hRR hrl z1 z2 z3 z4;go_wp2
    obtain ⟨e0,e1⟩:wf.cell? ⟨w.heap.size,0,none⟩=some (.slice a' ls.length c')∧wf.cell? ⟨w.heap.size,1,none⟩=some (.map mb):=⟨Z.cell 0 rfl,Z.cell 1 rfl⟩;refine bodyPost_ret (v:=.agg #[.slice a' ls.length c',.map mb]) ?_ rfl ⟨HF.out,HKZ.out⟩;simp [results,Tryz.results40,go_sem,e0,e1]
  · obtain ⟨heE,hns⟩:=mem_left he
    obtain ⟨x,v,hkx,hvx,hbx,hhx⟩:=HMEM.out en heE;rw [hkx,hvx] at hnx0;obtain ⟨kn,sn,rn⟩:=kp_block (.mapIter (some B) n (seen.push en.born) n) hwd (r:=r);have rn:=rn hrl;generalize setBlock wd r (.mapIter (some B) n (seen.push en.born) n)=wn at *;have hnx:∀ ty,(Instr.next (.pointer (some ⟨r,0,none⟩)) false ty).run Tryz.prog wr=.ok (.tuple #[.bool true,.string x,.agg v.cells]) wn:=fun _=>hnx0;clear hnx0;have hbn:wn.heap[B]? = some (.map E n):=(kn.block B (by have:=kw.size;have:=HB.out.2;omega) (by have:=HB.out.2;have:=HK2.out.size;omega)).trans hbB;have hen:=run_entry_at (P:=Tryz.prog) wn r B n seen E n en rn hbn heE HN.out.1;rw [hkx,hvx] at hen;have HLS:Hid ((leftOf E (seen.push en.born)).size<(leftOf E seen).size):=left_shrinks E seen en he;have HIS:Hid (wr.iterSeen r=seen):=by unfold Hid World.iterSeen;rw [hR]
    have kn2:Below w2.heap.size w2 wn:=k.trans (kp_belowX kn (by omega) (by have:=k.size;omega));have HP:Hid (PartB E.toList (seen.push en.born) (putB x (cpB (getB x L)) L') L):=hP.push HN.out.1 HN.out.2.2 heE hkx hhx;have O1:=hO.of_blk (kn.block ob (by omega) (by omega));have HNX:Hid (wr.heap.size=wn.heap.size):=sn.symm;have ea:=below_alloc wn (.cells v.cells 49);have O2:=O1.below ea O1.lt;have rn2:=(ea.block r (by omega)).trans rn;have hv2:BndIs f D (wn.alloc (.cells v.cells 49)) v (getB x L):=hbx.imp (fun _ h=>h) (fun g hg=>((kn2.trans (ea.mono kn2.size)).block g (by have:=HD.out g hg;have:=HK2.out.size;omega)).trans (HK2.out.block g (HD.out g hg)));have hD2:∀ g,D g→g<(wn.alloc (.cells v.cells 49)).heap.size:=fun g hg=>by have:=HD.out g hg;have:=HK2.out.size;have:=kn2.size;simp;omega
    have K2a:Below w2.heap.size w2 (wn.alloc (.cells v.cells 49)):=kn2.trans (ea.mono kn2.size);have hEa:EntsIs f (Fr3 w1.heap.size wr.heap.size ob r mb) (wn.alloc (.cells v.cells 49)) l' L':=hE.imp (fun _ h=>h) (fun g hg=>(ea.block g (by have:=hg.1.2;omega)).trans (kn.block g hg.1.2 hg.2.2.1));have hrn:r<wn.heap.size:=by omega
    have sa:(wn.alloc (.cells v.cells 49)).heap.size=wn.heap.size+1:=by simp
    cases mb with
    | none=>
     obtain rfl:l'=[]:=by rcases hM with h | ⟨_,h,_⟩;exact h.2;cases h
     obtain rfl:L'=[]:=hE.nil_l;have HPT:=frPut_none (o:=0) x (O2.cell 1 rfl) (O2.frozen 1) O2.lt hv2 hD2 (fun h=>by have:=HD.out ob h;have:=HK2.out.size;omega);obtain ⟨p0,p1,p2,p3,p4,p5,p6,p7,p8,p9,p10,p11,p12⟩:=cells13 (boxA_new wn v.cells 49);generalize hwa:wn.alloc (.cells v.cells 49)=wa at *;dsimp only [BV.cells] at hwa;have HC:Hid (Calls Tryz.prog 74 #[.pointer (some ⟨ob,0,none⟩),.string x,.agg v.cells] wa _):=HPT;clear HPT hP hE hM hmb hO hR hbB k kw hbx hhx heE hns hvx hkx hwd he sn hrl z1 z2 z3 z4;have HSA:Hid (wa.heap.size=wn.heap.size+1∧r<wn.heap.size):=⟨sa,hrn⟩;clear sa hrn
     go_wp2_with fail
     refine HC.out.mono ?_;rintro e w5 ⟨rfl,B',hB',y,hM5,hY5,hb5,k5⟩;clear p0 p1 p2 p3 p4 p5 p6 p7 p8 p9 p10 p11 p12;have s5:=k5.size;obtain ⟨z1,z2,z3,z4⟩:=HSZ.out;obtain ⟨sa,hrn⟩:=HSA.out;have sn:=HNX.out;have rn5:w5.heap[r]? = some (.mapIter (some B) n (seen.push en.born) n):=(k5.block r (by omega) (by omega)).trans rn2;have HI5:Hid (CI f w1.heap.size w2 ob r B n E ls a' c' L w5):=by
      refine ⟨_,some B',[(x,.agg y.cells)],putB x (cpB (getB x L)) [],rn5,(O2.set1x (.map (some B'))).of_blk hb5,Or.inr ⟨B',rfl,hM5⟩,fun g hg => ?_,⟨rfl,⟨y,rfl,hY5.imp (fun g hg=>⟨⟨by have:=hg.1.1;omega,hg.1.2⟩,by have:=hg.1.1;omega,by have:=hg.1.1;omega,fun e=>hg.2 (by cases e;rfl)⟩) (fun _ _=>rfl)⟩,trivial⟩,HP.out,K2a.trans (kp_belowX k5 (by omega) (by have:=K2a.size;omega))⟩;obtain rfl:=Option.some.inj hg;exact ⟨by omega,hM5.lt⟩
     have HIS5:Hid (w5.iterSeen r=seen.push en.born):=by unfold Hid World.iterSeen;rw [rn5]
     clear hM5 hY5 hb5 k5 rn5 HC O1 O2 ea rn rn2 hv2 hD2 K2a hEa kn kn2 hbn hen hnx HP z1 z2 z3 z4 sa hrn sn s5 hB';go_wp2
     go_roundw
     case rel=>exact HI5
     case measure=>rw [HIS5.out,HIS.out];exact HLS.out
    | some B'=>
     obtain ⟨b1,b2⟩:=hmb B' rfl;have hM':MapS wr B' l':=by rcases hM with h | ⟨_,h,h2⟩;cases h.1;cases h;exact h2
     have hMa:=(hM'.of_block (kn.block B' b2 (by omega))).below ea (by omega);have HPT:=frPut_some (o:=0) x (O2.cell 1 rfl) O2.lt hMa hv2 hD2 (by omega);obtain ⟨p0,p1,p2,p3,p4,p5,p6,p7,p8,p9,p10,p11,p12⟩:=cells13 (boxA_new wn v.cells 49);generalize hwa:wn.alloc (.cells v.cells 49)=wa at *;dsimp only [BV.cells] at hwa;have HC:Hid (Calls Tryz.prog 74 #[.pointer (some ⟨ob,0,none⟩),.string x,.agg v.cells] wa _):=HPT;clear HPT hP hE hM hmb hO hR hbB k kw hbx hhx heE hns hvx hkx hwd he hM' hMa sn hrl z1 z2 z3 z4;have HSA:Hid (wa.heap.size=wn.heap.size+1∧r<wn.heap.size):=⟨sa,hrn⟩;clear sa hrn
     go_wp2_with fail
     refine HC.out.mono ?_;rintro e w5 ⟨rfl,y,hM5,hY5,k5⟩;clear p0 p1 p2 p3 p4 p5 p6 p7 p8 p9 p10 p11 p12;have s5:=k5.size;obtain ⟨z1,z2,z3,z4⟩:=HSZ.out;obtain ⟨sa,hrn⟩:=HSA.out;have sn:=HNX.out;have rn5:w5.heap[r]? = some (.mapIter (some B) n (seen.push en.born) n):=(k5.block r (by omega) (by omega)).trans rn2;have HI5:Hid (CI f w1.heap.size w2 ob r B n E ls a' c' L w5):=by
      refine ⟨_,some B',_,_,rn5,O2.of_blk (k5.block ob (by omega) (by omega)),Or.inr ⟨B',rfl,hM5⟩,fun g hg => ?_,EntsIs.put x (hY5.imp (fun g hg=>⟨⟨by have:=hg.1;omega,hg.2⟩,by have:=hg.1;omega,by have:=hg.1;omega,fun e=>by have:=hg.1;cases e;omega⟩) (fun _ _=>rfl)) (hEa.imp (fun g hg=>⟨⟨hg.1.1,by have:=hg.1.2;omega⟩,hg.2⟩) (fun g hg=>k5.block g (by have:=hg.1.2;omega) (fun e=>hg.2.2.2 (by rw [e])))),HP.out,K2a.trans (kp_belowX k5 (by omega) (by have:=K2a.size;omega))⟩;obtain rfl:=Option.some.inj hg;exact ⟨b1,by omega⟩
     have HIS5:Hid (w5.iterSeen r=seen.push en.born):=by unfold Hid World.iterSeen;rw [rn5]
     clear hM5 hY5 k5 rn5 HC O1 O2 ea rn rn2 hv2 hD2 K2a hEa kn kn2 hbn hen hnx HP z1 z2 z3 z4 sa hrn sn s5 b1 b2;go_wp2
     go_roundw
     case rel=>exact HI5
     case measure=>rw [HIS5.out,HIS.out];exact HLS.out
theorem copied_none {f:Nat} {D:Nat→Prop} {w:World} {b o:Nat} {a:Option Addr} {c:Nat} {ls:List ByteArray} (hc0:w.cell? ⟨b,o,none⟩=some (.slice a ls.length c)) (hc1:w.cell? ⟨b,o+1,none⟩=some (.map none)) (hb:b<w.heap.size) (hls:RdT D w (.slice a ls.length c) ls) (h64:ls.length≤64) (hD:∀ g,D g→g<w.heap.size) :
    Calls Tryz.prog 40 #[.pointer (some ⟨b,o,none⟩)] w fun e w'=>CopdIs f w.heap.size ls [] e w'∧Below w.heap.size w w':=by
 have e1:=below_alloc w (.cells #[.slice none 0 0,.map none] 74);have R1:=boxA_new w #[.slice none 0 0,.map none] 74;obtain ⟨w1,hw1⟩:∃ w1,w.alloc (.cells #[.slice none 0 0,.map none] 74)=w1:=⟨_,rfl⟩;rw [hw1] at e1 R1;have s1:w1.heap.size=w.heap.size+1:=by rw [← hw1];simp
 have q0:=(e1.cell (p:=⟨b,o,none⟩) hb).trans hc0;have q1:=(e1.cell (p:=⟨b,o+1,none⟩) hb).trans hc1;have HLS:Hid (RdT D w1 (.slice a ls.length c) ls∧∀ g,D g→g<w1.heap.size):=⟨hls.imp (fun _ h=>h) (fun g hg=>e1.block g (hD g hg)),fun g hg=>by have:=hD g hg;omega⟩;clear hc0 hc1 hls hD;go_enter Tryz.func40,Tryz.ntmps40
 go_upto_region 1 with fail
 (try (rw [hw1]))
 clear hw1
 go_wp2_with fail
 refine (cloneT_any HLS.out.1 HLS.out.2 (by omega)).mono ?_;rintro e w2 ⟨a',c',rfl,hL2,k2⟩;have K2:Below w.heap.size w w2:=e1.trans (k2.mono (by omega));have R2:=R1.below k2 (by omega);have e3:=below_alloc w2 (.cells #[.slice a' ls.length c',.map none] 74);have O3:=boxA_new w2 #[.slice a' ls.length c',.map none] 74;have s2:=k2.size
 go_upto_region 2 with fail
 obtain ⟨w3,hw3⟩:∃ w3,w2.alloc (.cells #[.slice a' ls.length c',.map none] 74)=w3:=⟨_,rfl⟩;have HS3:Hid (w3.heap.size=w2.heap.size+1):=by rw [← hw3];unfold Hid;simp
 rw [hw3] at e3 O3
 (try (rw [hw3]))
 clear hw3;have q2:=((k2.trans (e3.mono k2.size)).cell (p:=⟨b,o+1,none⟩) (by show b<w1.heap.size;omega)).trans q1;have hrg:=run_range_nilMap (P:=Tryz.prog) w3 72 _ _ und_map;have hnx:∀ ty,(Instr.next (.pointer (some ⟨w3.heap.size,0,none⟩)) false ty).run Tryz.prog (w3.alloc (.mapIter none 0 #[] 0))=_:=fun ty=>run_next_nilMap (P:=Tryz.prog) w3 ty 0 0 #[];have e4:=below_alloc w3 (.mapIter none 0 #[] 0);obtain ⟨ob,hob⟩:∃ ob,w2.heap.size=ob:=⟨_,rfl⟩;have HOB:Hid (w2.heap.size=ob):=hob;rw [hob] at O3 ⊢;have O4:=O3.below e4 O3.lt;clear q0 q1 hob
 go_wp2_with fail
 obtain ⟨w4,hw4⟩:∃ w4,w3.alloc (.mapIter none 0 #[] 0)=w4:=⟨_,rfl⟩;rw [hw4] at hnx e4 O4
 (try (rw [hw4]))
 clear hw4 hrg;have K24:Below w2.heap.size w2 w4:=e3.trans (e4.mono (by have:=HS3.out;omega));obtain ⟨r,hr⟩:∃ r,w3.heap.size=r:=⟨_,rfl⟩;rw [hr] at hnx ⊢;have HSZ:Hid (w1.heap.size=w.heap.size+1∧w1.heap.size≤w2.heap.size∧ob=w2.heap.size):=⟨s1,s2,HOB.out.symm⟩;have HL2:Hid (RdT (Fr w1.heap.size w2.heap.size) w2 (.slice a' ls.length c') ls):=hL2;clear hL2 s1 s2 HS3 HOB hr O3 R1 e1 e3 e4 k2 q2 hb HLS
 go_loopw [4] (fun _ wr=>wr=w4) (fun _ _=>0)
 case atStart=>rfl
 case round=>
  obtain rfl:=hrel.symm;obtain ⟨z1,z2,z3⟩:=HSZ.out;have kw:Below w.heap.size w w4:=K2.trans (K24.mono K2.size);obtain ⟨y0,y1⟩:w4.cell? ⟨ob,0,none⟩=some (.slice a' ls.length c')∧w4.cell? ⟨ob,1,none⟩=some (.map none):=⟨O4.cell 0 rfl,O4.cell 1 rfl⟩;have hRR:=R2.below K24 (by have:=K2.size;omega);have v0:=hRR.cell 0 rfl;have v1:=hRR.cell 1 rfl;have u0:=hRR.frozen 0;have u1:=hRR.frozen 1;have Z:=hRR.set2 (.slice a' ls.length c') (.map none);have oth:∀ g,w.heap.size<g→((w4.setCell ⟨w.heap.size,0,none⟩ (.slice a' ls.length c')).setCell ⟨w.heap.size,1,none⟩ (.map none)).heap[g]? = w4.heap[g]?:=fun g hg=>(set_oth _ (by omega)).trans (set_oth _ (by omega));have KZ:Below w.heap.size w ((w4.setCell ⟨w.heap.size,0,none⟩ (.slice a' ls.length c')).setCell ⟨w.heap.size,1,none⟩ (.map none)):=(kw.setCell (Nat.le_refl _) _).setCell (Nat.le_refl _) _;have sz:((w4.setCell ⟨w.heap.size,0,none⟩ (.slice a' ls.length c')).setCell ⟨w.heap.size,1,none⟩ (.map none)).heap.size=w4.heap.size:=by simp [World.setCell]
  obtain ⟨wf,hwf⟩:∃ wf,(w4.setCell ⟨w.heap.size,0,none⟩ (.slice a' ls.length c')).setCell ⟨w.heap.size,1,none⟩ (.map none)=wf:=⟨_,rfl⟩;rw [hwf] at Z oth KZ sz;have HF:Hid (CopdIs f w.heap.size ls [] (.returned (.agg #[.slice a' ls.length c',.map none])) wf):=
   ⟨a',c',none,[],[],rfl,HL2.out.imp (fun g hg=>⟨by have:=hg.1;omega,by have:=hg.2;have:=K24.size;omega⟩) (fun g hg=>(oth g (by have:=hg.1;omega)).trans (K24.block g hg.2)),Or.inl ⟨rfl,rfl⟩,(fun g hg=>by cases hg),trivial,fun x=>⟨rfl,rfl⟩⟩
  have HKZ:Hid (Below w.heap.size w wf):=KZ;clear kw oth KZ sz hRR HL2 K2 K24 R2 O4 HSZ z1 z2 z3;go_wp2
  obtain ⟨e0,e1⟩:wf.cell? ⟨w.heap.size,0,none⟩=some (.slice a' ls.length c')∧wf.cell? ⟨w.heap.size,1,none⟩=some (.map none):=⟨Z.cell 0 rfl,Z.cell 1 rfl⟩;refine bodyPost_ret (v:=.agg #[.slice a' ls.length c',.map none]) ?_ rfl ⟨HF.out,HKZ.out⟩;simp [results,Tryz.results40,go_sem,e0,e1]
theorem copied_any {f:Nat} {D:Nat→Prop} {w:World} {b o:Nat} {a:Option Addr} {c:Nat} {ls:List ByteArray} {mb:Option Nat} {l:List EntS} {L:List EntB} (hc0:w.cell? ⟨b,o,none⟩=some (.slice a ls.length c)) (hc1:w.cell? ⟨b,o+1,none⟩=some (.map mb)) (hb:b<w.heap.size) (hls:RdT D w (.slice a ls.length c) ls) (h64:ls.length≤64) (hM:FrM w mb l) (hE:EntsIs f D w l L) (hn:(L.map (·.1)).Nodup) (hD:∀ g,D g→g<w.heap.size) :
    Calls Tryz.prog 40 #[.pointer (some ⟨b,o,none⟩)] w fun e w'=>CopdIs f w.heap.size ls L e w'∧Below w.heap.size w w':=by
 rcases hM with ⟨rfl,rfl⟩ | ⟨B,rfl,hM⟩
 · obtain rfl:=hE.nil_l
   exact copied_none hc0 hc1 hb hls h64 hD
 · exact copied_some hc0 hc1 hb hls h64 hM hE hn hD
end
section
open Go.RowKit
attribute [local go_sem] Oper.semAt_some
structure TabV (f:Nat) (D:Nat→Prop) (w:World) (tb:Nat) (F0:FRep) (ua:Option Addr) (ucap:Nat) (rs:List FRep) (T:List FrB):Prop where
 tabL:TabL w tb F0 [] ua ucap rs ((T.drop 1).map FrB.ls)
 len:T.length=rs.length+1
 ents:∀ i,i<T.length→∃ l,FrM w (mbA F0.mb rs i) l∧EntsIs f D w l (T.getD i fb0).en
 dlt:∀ g,D g→g<w.heap.size
section
variable {f:Nat} {D:Nat→Prop} {w w':World} {tb:Nat} {F0:FRep} {ua:Option Addr} {ucap:Nat} {rs:List FRep} {T:List FrB}
theorem TabV.below (h:TabV f D w tb F0 ua ucap rs T) (k:Below w.heap.size w w'):TabV f D w' tb F0 ua ucap rs T:=
 ⟨h.tabL.below k,h.len,fun i hi=>by
  obtain ⟨l,h1,h2⟩:=h.ents i hi;exact ⟨l,h1.below k,h2.imp (fun _ h=>h) (fun g hg=>k.block g (h.dlt g hg))⟩,fun g hg=>Nat.lt_of_lt_of_le (h.dlt g hg) k.size⟩
theorem TabV.place (h:TabV f D w tb F0 ua ucap rs T) (x:ByteArray):placeF ua tb ((T.drop 1).map FrB.ls) x=slotA tb ua (posF T x):=by
 unfold placeF posF;rw [show ((T.drop 1).map FrB.ls).length=T.length - 1 by simp]
 cases idxF ((T.drop 1).map FrB.ls) x (T.length - 1) <;> rfl
theorem TabV.slot (h:TabV f D w tb F0 ua ucap rs T) {i:Nat} (hi:i<T.length):∃ b o,slotA tb ua i=⟨b,o,none⟩∧w.cell? ⟨b,o+1,none⟩=some (.map (mbA F0.mb rs i))∧b<w.heap.size:=by
 cases i with
 | zero=>exact ⟨tb,0,rfl,h.tabL.box.cell 1 rfl,h.tabL.box.lt⟩
 | succ k=>
  have hk:k<rs.length:=by have:=h.len;omega
  obtain ⟨_,_,h3⟩:=h.tabL.up;rcases h3 with h3 | ⟨ub,rfl,h4,h5⟩
  · rw [h3] at hk;simp at hk
  · exact ⟨ub,k*2,rfl,(h5 k hk).2,h4⟩
theorem vGet_any (x:ByteArray) (hT:TabV f D w tb F0 ua ucap rs T) :
    Calls Tryz.prog 22 #[.pointer (some ⟨tb,0,none⟩),.string x] w fun e w'=>∃ y:BV,e=.returned (.tuple #[.agg y.cells,.bool (hasB x (curL T x))])∧BndIs f (Fr w.heap.size w'.heap.size) w' y (cpB (getB x (curL T x)))∧Below w.heap.size w w':=by
 have hp:posF T x<T.length:=posF_lt x (by have:=hT.len;omega);obtain ⟨H,hH⟩:∃ H,hasB x (curL T x)=H:=⟨_,rfl⟩;obtain ⟨G,hG⟩:∃ G,getB x (curL T x)=G:=⟨_,rfl⟩;rw [hH,hG];have HH:Hid (hasB x (T.getD (posF T x) fb0).en=H):=hH;have HG:Hid (getB x (T.getD (posF T x) fb0).en=G):=hG;clear hH hG;have e1:=below_alloc w (.cells bnd0 49);have B1:=boxA_new w bnd0 49;have hT1:=hT.below e1;go_enter Tryz.func22,Tryz.ntmps22
 go_wp2_with fail
 refine (place_any x hT1.tabL rfl).mono ?_;rintro e w1 ⟨rfl,k1⟩;have hT2:=hT1.below k1;have s1:=k1.size;rw [World.size_alloc] at s1;rw [hT2.place];obtain ⟨b,o,hs,hsc,hsb⟩:=hT2.slot hp;obtain ⟨l,hl1,hl2⟩:=hT2.ents _ hp;have HSC:Hid (w1.cell? ⟨b,o+1,none⟩=some (.map (mbA F0.mb rs (posF T x)))∧b<w1.heap.size∧FrM w1 (mbA F0.mb rs (posF T x)) l∧EntsIs f D w1 l (T.getD (posF T x) fb0).en):=⟨hsc,hsb,hl1,hl2⟩;have HT2:Hid (TabV f D w1 tb F0 ua ucap rs T):=hT2;have HSL:Hid (slotA tb ua (posF T x)=⟨b,o,none⟩):=hs;rw [hs];have B1':=B1.below k1 (by simp);have kw:Below w.heap.size w w1:=e1.trans (k1.mono (by simp));clear hT hT1 hT2 B1 hs hsc hsb hl1 hl2
 go_wp2_with fail
 refine (frGet_any x HSC.out.1 HSC.out.2.1 HSC.out.2.2.1 HSC.out.2.2.2 HT2.out.dlt).mono ?_;rintro e w2 ⟨y,rfl,hY,q2⟩;have s2:=q2.size;have R:=B1'.below q2 (by omega);rw [HG.out] at hY;rw [HH.out];clear HH HG;have HY:Hid (BndIs f (Fr w1.heap.size w2.heap.size) w2 y (cpB G)):=hY;have K2:=kw.trans (q2.mono (by omega));obtain ⟨x0,x1,x2,x3,x4,x5,x6,x7,x8,x9,x10,x11,x12⟩:=cells13 R;obtain ⟨h0,h1,h2,h3,h4,h5,h6,h7,h8,h9,h10,h11,h12⟩:=frozen13 R;have Z:=set13 R (.int .i64 y.k) (.slice y.a1 y.n1 y.y1) (.slice y.a2 y.n2 y.y2) (.string y.s1) (.string y.s2) (.string y.s3) (.string y.s4) (.slice y.b1 y.m1 y.z1) (.slice y.b2 y.m2 y.z2) (.slice y.b3 y.m3 y.z3) (.slice y.b4 y.m4 y.z4) (.bool y.br) (.int .i64 y.ln);have KZ:=below13 (R:=w.heap.size) K2 (Nat.le_refl _) (.int .i64 y.k) (.slice y.a1 y.n1 y.y1) (.slice y.a2 y.n2 y.y2) (.string y.s1) (.string y.s2) (.string y.s3) (.string y.s4) (.slice y.b1 y.m1 y.z1) (.slice y.b2 y.m2 y.z2) (.slice y.b3 y.m3 y.z3) (.slice y.b4 y.m4 y.z4) (.bool y.br) (.int .i64 y.ln);have AZ:(ch13 w2 w.heap.size (.int .i64 y.k) (.slice y.a1 y.n1 y.y1) (.slice y.a2 y.n2 y.y2) (.string y.s1) (.string y.s2) (.string y.s3) (.string y.s4) (.slice y.b1 y.m1 y.z1) (.slice y.b2 y.m2 y.z2) (.slice y.b3 y.m3 y.z3) (.slice y.b4 y.m4 y.z4) (.bool y.br) (.int .i64 y.ln)).heap.size=w2.heap.size∧∀ g,w.heap.size<g→(ch13 w2 w.heap.size (.int .i64 y.k) (.slice y.a1 y.n1 y.y1) (.slice y.a2 y.n2 y.y2) (.string y.s1) (.string y.s2) (.string y.s3) (.string y.s4) (.slice y.b1 y.m1 y.z1) (.slice y.b2 y.m2 y.z2) (.slice y.b3 y.m3 y.z3) (.slice y.b4 y.m4 y.z4) (.bool y.br) (.int .i64 y.ln)).heap[g]? = w2.heap[g]?:=⟨by simp [World.setCell],fun g hg=>other13 (by omega) _ _ _ _ _ _ _ _ _ _ _ _ _⟩;obtain ⟨w6,hw6⟩:∃ w6,ch13 w2 w.heap.size (.int .i64 y.k) (.slice y.a1 y.n1 y.y1) (.slice y.a2 y.n2 y.y2) (.string y.s1) (.string y.s2) (.string y.s3) (.string y.s4) (.slice y.b1 y.m1 y.z1) (.slice y.b2 y.m2 y.z2) (.slice y.b3 y.m3 y.z3) (.slice y.b4 y.m4 y.z4) (.bool y.br) (.int .i64 y.ln)=w6:=⟨_,rfl⟩;rw [hw6] at Z KZ AZ;dsimp only [ch13] at hw6;have HKZ:Hid (Below w.heap.size w w6):=KZ;have HO:Hid (BndIs f (Fr w.heap.size w6.heap.size) w6 y (cpB G)):=by
  obtain ⟨a1,a2⟩:=AZ;refine HY.out.imp (fun g hg=>⟨by have:=hg.1;omega,by have:=hg.2;omega⟩) (fun g hg=>a2 g (by have:=hg.1;omega))
 clear HY hY K2 KZ AZ q2 B1' e1 k1 kw s2 R HT2 HSL HSC;go_wp2
 obtain ⟨e0,e1,e2,e3,e4,e5,e6,e7,e8,e9,e10,e11,e12⟩:=cells13 Z;refine bodyPost_ret (v:=.tuple #[.agg y.cells,.bool H]) ?_ rfl ⟨y,rfl,HO.out,HKZ.out⟩;simp [results,Tryz.results22,go_sem,e0,e1,e2,e3,e4,e5,e6,e7,e8,e9,e10,e11,e12]
theorem vDepth_any (hT:TabV f D w tb F0 ua ucap rs T):Calls Tryz.prog 21 #[.pointer (some ⟨tb,0,none⟩)] w fun e w'=>e=.returned (.int .i64 ((T.length:Int) - 1))∧w'=w:=by
 have c2:=hT.tabL.box.cell 2 rfl;have HL:Hid ((rs.length:Int)=(T.length:Int) - 1):=by have:=hT.len;unfold Hid;omega
 clear hT;go_enter Tryz.func21,Tryz.ntmps21;go_wp2
 go_ret
 exact ⟨by rw [HL.out];rfl,rfl⟩
end
end
section
open Go.RowKit
structure SayT (T' T:List FrB):Prop where
 len:T'.length=T.length
 at':∀ i,i<T.length→(T'.getD i fb0).ls=(T.getD i fb0).ls∧SayB (T'.getD i fb0).en (T.getD i fb0).en
theorem SayT.cur {T' T:List FrB} (h:SayT T' T) (h0:0<T.length) (x:ByteArray):hasB x (curL T' x)=hasB x (curL T x)∧cpB (getB x (curL T' x))=cpB (getB x (curL T x)):=by
 have hp:posF T' x=posF T x:=by
  unfold posF;have e:(T'.drop 1).map FrB.ls=(T.drop 1).map FrB.ls:=by
   refine List.ext_getElem? fun j => ?_;simp only [List.getElem?_map,List.getElem?_drop];by_cases hj:1+j<T.length
   · have:=(h.at' (1+j) hj).1
     rw [List.getD_eq_getElem?_getD,List.getD_eq_getElem?_getD,List.getElem?_eq_getElem hj,List.getElem?_eq_getElem (by rw [h.len];exact hj)] at this;rw [List.getElem?_eq_getElem hj,List.getElem?_eq_getElem (by rw [h.len];exact hj)];simpa using this
   · rw [List.getElem?_eq_none (by rw [h.len];omega),List.getElem?_eq_none (by omega)]
  rw [e,h.len]
 unfold curL;rw [hp];exact (h.at' _ (posF_lt x h0)).2 x
structure WasR (f:Nat) (D:Nat→Prop) (w:World) (nb:Nat) (F0:FRep) (ua:Option Addr) (ucap:Nat) (rs:List FRep) (T:List FrB):Prop where
 box:BoxA w nb 77 #[.slice F0.la 0 F0.lc,.map F0.mb,.slice ua rs.length ucap]
 row:w.ownsRow 0 74 2 (.slice ua rs.length ucap) rs.length (frRow rs)
 len:T.length=rs.length+1
 ls0:(T.getD 0 fb0).ls=[]
 out:F0.ln=0∧RdT D w (.slice F0.la 0 F0.lc) []
 loc:∀ k,k<rs.length→(rs.getD k fr0).ln=(T.getD (k+1) fb0).ls.length∧RdT D w (.slice (rs.getD k fr0).la (T.getD (k+1) fb0).ls.length (rs.getD k fr0).lc) (T.getD (k+1) fb0).ls
 ents:∀ i,i<T.length→∃ l,FrM w (mbA F0.mb rs i) l∧(∀ B,mbA F0.mb rs i=some B→D B)∧EntsIs f D w l (T.getD i fb0).en
section
variable {f:Nat} {D D':Nat→Prop} {w w':World} {nb:Nat} {F0:FRep} {ua:Option Addr} {ucap:Nat} {rs:List FRep} {T:List FrB}
theorem WasR.keep (h:WasR f D w nb F0 ua ucap rs T) (hD:∀ g,D g→D' g) (ag:Agree D w w') (hb:w'.heap[nb]? = w.heap[nb]?) (hr:∀ g,(Value.slice ua rs.length ucap).ownBlock=some g→w'.heap[g]? = w.heap[g]?):WasR f D' w' nb F0 ua ucap rs T:=
 ⟨h.box.of_blk hb,own_blockN h.row hr,h.len,h.ls0,⟨h.out.1,h.out.2.imp hD ag⟩,fun k hk=>⟨(h.loc k hk).1,(h.loc k hk).2.imp hD ag⟩,fun i hi=>by
  obtain ⟨l,h1,h2,h3⟩:=h.ents i hi;exact ⟨l,h1.kept (fun B hB=>ag B (h2 B hB)),fun B hB=>hD B (h2 B hB),h3.imp hD ag⟩⟩
theorem WasR.view (h:WasR f D w nb F0 ua ucap rs T) (hD:∀ g,D g→g<w.heap.size):TabV f D w nb F0 ua ucap rs T:=by
 refine ⟨⟨by have:=h.box;rw [← h.out.1] at this;exact this,?_,by have:=h.len;simp;omega,⟨h.out.1,h.out.2.rd hD⟩,fun i hi => ?_⟩,h.len,fun i hi => ?_,hD⟩
 · have hr:=h.row
   obtain ⟨_,⟨hv,hn⟩ | ⟨g,cap,cur,hv,_,r2,r3,r4,r5,r6⟩⟩:=h.row
   · obtain ⟨rfl,_,rfl⟩:=Value.slice.inj hv
     exact ⟨by omega,by omega,Or.inl (List.eq_nil_of_length_eq_zero hn)⟩
   · obtain ⟨rfl,_,rfl⟩:=Value.slice.inj hv
     refine ⟨r3,r4,Or.inr ⟨g,rfl,lt_of_block r2,fun i hi => ?_⟩⟩;obtain ⟨q1,q2⟩:=frRow_at hi;exact ⟨by rw [World.ownsRow.cellAt hr _ (by omega)];exact q1,by rw [World.ownsRow.cellAt hr _ (by omega)];exact q2⟩
 · rw [getD_mapLs]
   exact ⟨(h.loc i hi).1,(h.loc i hi).2.rd hD⟩
 · obtain ⟨l,h1,_,h3⟩:=h.ents i hi
   exact ⟨l,h1,h3⟩
end
def WasIs (f lo hi:Nat) (w:World) (nb:Nat) (T:List FrB):Prop:=∃ F0 ua ucap rs,WasR f (Fr lo hi) w nb F0 ua ucap rs T∧Fr lo hi nb∧(∀ g,(Value.slice ua rs.length ucap).ownBlock=some g→Fr lo hi g)∧hi≤w.heap.size
theorem WasIs.keep {f lo hi nb:Nat} {w w':World} {T:List FrB} (h:WasIs f lo hi w nb T) (hk:∀ g,Fr lo hi g→w'.heap[g]? = w.heap[g]?) (hs:w.heap.size≤w'.heap.size):WasIs f lo hi w' nb T:=by
 obtain ⟨F0,ua,ucap,rs,h1,h2,h3,h4⟩:=h;exact ⟨F0,ua,ucap,rs,h1.keep (fun _ h=>h) hk (hk nb h2) (fun g hg=>hk g (h3 g hg)),h2,h3,by omega⟩
theorem WasIs.get {f lo hi nb:Nat} {w:World} {T:List FrB} (h:WasIs f lo hi w nb T) (x:ByteArray) :
    Calls Tryz.prog 22 #[.pointer (some ⟨nb,0,none⟩),.string x] w fun e w'=>∃ y:BV,e=.returned (.tuple #[.agg y.cells,.bool (hasB x (curL T x))])∧BndIs f (Fr w.heap.size w'.heap.size) w' y (cpB (getB x (curL T x)))∧Below w.heap.size w w':=by
 obtain ⟨F0,ua,ucap,rs,h1,h2,h3,h4⟩:=h;exact vGet_any x (h1.view (fun g hg=>Nat.lt_of_lt_of_le hg.2 h4))
theorem WasIs.depth {f lo hi nb:Nat} {w:World} {T:List FrB} (h:WasIs f lo hi w nb T):Calls Tryz.prog 21 #[.pointer (some ⟨nb,0,none⟩)] w fun e w'=>e=.returned (.int .i64 ((T.length:Int) - 1))∧w'=w:=by
 obtain ⟨F0,ua,ucap,rs,h1,h2,h3,h4⟩:=h;exact vDepth_any (h1.view (fun g hg=>Nat.lt_of_lt_of_le hg.2 h4))
end
section
open Go.RowKit
theorem memT_ded {x:ByteArray}:∀ (l acc:List ByteArray),x∈acc∨x∈l→memT x (dedF acc l)=true
 | [],acc,h=>by
  rw [dedF];rcases h with h | h
  · exact memT_iff.2 h
  · cases h
 | y :: l,acc,h=>by
  rw [dedF];by_cases e:memT y acc=true
  · rw [if_pos e]
    refine memT_ded l acc ?_;rcases h with h | h
    · exact Or.inl h
    · rcases List.mem_cons.1 h with rfl | h
      · exact Or.inl (memT_iff.1 e)
      · exact Or.inr h
  · rw [if_neg e]
    refine memT_ded l (acc++[y]) ?_;rcases h with h | h
    · exact Or.inl (List.mem_append_left _ h)
    · rcases List.mem_cons.1 h with rfl | h
      · exact Or.inl (by simp)
      · exact Or.inr h
theorem posF_top {T:List FrB} {F:FrB} {x:ByteArray} (h0:0<T.length) (h:memT x F.ls=true):posF (T++[F]) x=T.length:=by
 unfold posF;have e:idxF (((T++[F]).drop 1).map FrB.ls) x ((T++[F]).length - 1)=some (T.length - 1):=by
  rw [List.length_append,List.length_singleton,Nat.add_sub_cancel];obtain ⟨n,hn⟩:∃ n,T.length=n+1:=⟨T.length - 1,by omega⟩;rw [hn,idxF];have hg:(((T++[F]).drop 1).map FrB.ls).getD n []=F.ls:=by
   rw [List.getD_eq_getElem?_getD,List.getElem?_map,List.getElem?_drop,List.getElem?_append_right (by omega),show 1+n - T.length=0 by omega];rfl
  rw [hg,if_pos h];rfl
 rw [e];show T.length - 1+1=_;omega
def TopIs (T:List FrB) (ls:List ByteArray) (T1:List FrB):Prop:=∃ F:FrB,T1=T++[F]∧F.ls=ls
theorem top_set {T:List FrB} {F:FrB} {x:ByteArray} (h0:0<T.length) (h:memT x F.ls=true) (E:List EntB):TopIs T F.ls ((T++[F]).set (posF (T++[F]) x) ⟨((T++[F]).getD (posF (T++[F]) x) fb0).ls,E⟩):=by
 rw [posF_top h0 h];have hg:(T++[F]).getD T.length fb0=F:=by
  rw [List.getD_eq_getElem?_getD,List.getElem?_append_right (Nat.le_refl _),Nat.sub_self];rfl
 rw [hg];exact ⟨⟨F.ls,E⟩,by rw [List.set_append_right _ _ (Nat.le_refl _),Nat.sub_self];rfl,rfl⟩
section
variable {T T1:List FrB} {ls:List ByteArray} {x:ByteArray}
theorem TopIs.set (h:TopIs T ls T1) (h0:0<T.length) (hx:memT x ls=true) (G:Bd):TopIs T ls (setT T1 x G):=by
 obtain ⟨F,rfl,rfl⟩:=h;unfold setT;by_cases e:setE (T++[F]) x G.k=0
 · rw [if_pos e];exact top_set h0 hx _
 · rw [if_neg e];exact ⟨F,rfl,rfl⟩
theorem TopIs.setVar (h:TopIs T ls T1) (h0:0<T.length) (hx:memT x ls=true) (t:Tr):TopIs T ls (setVarT T1 x t):=by
 unfold setVarT
 split
 · exact h.set h0 hx _
 · exact h
theorem TopIs.setLab (h:TopIs T ls T1) (h0:0<T.length) (hx:memT x ls=true) (n:Int):TopIs T ls (setLabT T1 x n):=by
 unfold setLabT
 split
 · exact h.set h0 hx _
 · exact h
theorem TopIs.setFn (h:TopIs T ls T1) (h0:0<T.length) (hx:memT x ls=true) (G:Bd):TopIs T ls (setFnT T1 x G):=by
 unfold setFnT
 split
 · exact h.set h0 hx _
 · exact h
theorem TopIs.era (h:TopIs T ls T1) (h0:0<T.length) (hx:memT x ls=true):TopIs T ls (eraT T1 [x]):=by
 obtain ⟨F,rfl,rfl⟩:=h;exact top_set h0 hx _
theorem TopIs.pop (h:TopIs T ls T1) (h0:0<T.length):popT T1=T∧popE T1=0:=by
 obtain ⟨F,rfl,rfl⟩:=h;have hl:¬ (T++[F]).length≤1:=by rw [List.length_append,List.length_singleton];omega
 unfold popT popE;rw [if_neg hl,if_neg hl];simp
end
section
variable {f:Nat} {M:Nat→Prop} {w:World} {tb:Nat} {T:List FrB}
theorem tDepth_any (h:TabIs f M w tb T):Calls Tryz.prog 21 #[.pointer (some ⟨tb,0,none⟩)] w fun e w'=>e=.returned (.int .i64 ((T.length:Int) - 1))∧w'=w:=by
 obtain ⟨m0,ua,ucap,rs,hT⟩:=h;have c2:=hT.box.cell 2 rfl;have HL:Hid ((rs.length:Int)=(T.length:Int) - 1):=by have:=hT.len;unfold Hid;omega
 clear hT;go_enter Tryz.func21,Tryz.ntmps21;go_wp2
 go_ret
 exact ⟨by rw [HL.out];rfl,rfl⟩
end
end
section
open Go.RowKit
attribute [local go_sem] Oper.semAt_some
theorem getD_appL {α:Type} {l:List α} {x d:α} {i:Nat} (h:i<l.length):(l++[x]).getD i d=l.getD i d:=by
 rw [List.getD_eq_getElem?_getD,List.getElem?_append_left h,List.getD_eq_getElem?_getD]
theorem getD_appR {α:Type} {l:List α} {x d:α} {i:Nat} (h:i=l.length):(l++[x]).getD i d=x:=by
 subst h;rw [List.getD_eq_getElem?_getD,List.getElem?_append_right (Nat.le_refl _),Nat.sub_self];rfl
theorem WasR.push {f:Nat} {D D':Nat→Prop} {w w':World} {nb:Nat} {F0 r:FRep} {ua ua':Option Addr} {ucap ucap':Nat} {rs:List FRep} {T:List FrB} {F:FrB} (h:WasR f D w nb F0 ua ucap rs T) (hD:∀ g,D g→D' g) (ag:Agree D w w')
    (hbox:BoxA w' nb 77 #[.slice F0.la 0 F0.lc,.map F0.mb,.slice ua' (rs.length+1) ucap']) (hrow:w'.ownsRow 0 74 2 (.slice ua' (rs.length+1) ucap') (rs.length+1) (frRow (rs++[r])))
    (hl:r.ln=F.ls.length∧RdT D' w' (.slice r.la F.ls.length r.lc) F.ls) (he:∃ l,FrM w' r.mb l∧(∀ B,r.mb=some B→D' B)∧EntsIs f D' w' l F.en):WasR f D' w' nb F0 ua' ucap' (rs++[r]) (T++[F]):=by
 have hlen:=h.len;have e1:(rs++[r]).length=rs.length+1:=by simp
 refine ⟨by rw [e1];exact hbox,by rw [e1];exact hrow,by simp [hlen],by rw [getD_appL (by omega)];exact h.ls0,⟨h.out.1,h.out.2.imp hD ag⟩,fun k hk => ?_,fun i hi => ?_⟩
 · rw [e1] at hk
   by_cases e:k<rs.length
   · rw [getD_appL e,getD_appL (by omega)]
     exact ⟨(h.loc k e).1,(h.loc k e).2.imp hD ag⟩
   · obtain rfl:k=rs.length:=by omega
     rw [getD_appR rfl,getD_appR hlen.symm];exact hl
 · rw [List.length_append,List.length_singleton] at hi
   by_cases e:i<T.length
   · have hm:mbA F0.mb (rs++[r]) i=mbA F0.mb rs i:=by
      cases i with
      | zero=>rfl
      | succ k=>show ((rs++[r]).getD k fr0).mb=_;rw [getD_appL (by omega)];rfl
     rw [hm,getD_appL e];obtain ⟨l,h1,h2,h3⟩:=h.ents i e;exact ⟨l,h1.kept (fun B hB=>ag B (h2 B hB)),fun B hB=>hD B (h2 B hB),h3.imp hD ag⟩
   · obtain rfl:i=T.length:=by omega
     have hm:mbA F0.mb (rs++[r]) T.length=r.mb:=by
      rw [hlen];show ((rs++[r]).getD rs.length fr0).mb=_;rw [getD_appR rfl]
     rw [hm,getD_appR rfl];exact he
def FD (lo hi nb:Nat) (v:Value):Nat→Prop:=fun g=>Fr lo hi g∧g≠nb∧v.ownBlock≠some g
def FI (f:Nat) (w:World) (nb:Nat) (T:List FrB) (i:Nat) (wr:World):Prop:=
 ∃ F0 ua ucap rs T2,List.length rs=i∧WasR f (FD w.heap.size wr.heap.size nb (.slice ua rs.length ucap)) wr nb F0 ua ucap rs T2∧(∀ g,(Value.slice ua rs.length ucap).ownBlock=some g→w.heap.size≤g∧g≠nb)∧SayT T2 (T.take (i+1))∧Below w.heap.size w wr∧w.heap.size≤nb∧nb<wr.heap.size
theorem SayT.push {T T2:List FrB} {F:FrB} {i:Nat} (h:SayT T2 (T.take (i+1))) (hi:i+1<T.length) (hl:F.ls=(T.getD (i+1) fb0).ls) (he:SayB F.en (T.getD (i+1) fb0).en):SayT (T2++[F]) (T.take (i+1+1)):=by
 have hl1:(T.take (i+1)).length=i+1:=by simp;omega
 have hl2:(T.take (i+1+1)).length=i+1+1:=by simp;omega
 have h2:=h.len;refine ⟨by simp;omega,fun k hk => ?_⟩;rw [hl2] at hk;rw [getD_take _ _ _ _ hk];by_cases e:k<i+1
 · have:=h.at' k (by omega)
   rw [getD_take _ _ _ _ e] at this;rw [getD_appL (by omega)];exact this
 · obtain rfl:k=i+1:=by omega
   rw [getD_appR (by omega)];exact ⟨hl,he⟩
def ForkP (f:Nat) (w:World) (T:List FrB) (e:Ending) (w':World):Prop:=∃ nb T2,e=.returned (.pointer (some ⟨nb,0,none⟩))∧WasIs f w.heap.size w'.heap.size w' nb T2∧SayT T2 T∧Below w.heap.size w w'
theorem fork_any {f:Nat} {M:Nat→Prop} {w:World} {tb:Nat} {T:List FrB} (h:TabIs f M w tb T) (hk:TOK T) :
    Calls Tryz.prog 14 #[.pointer (some ⟨tb,0,none⟩)] w (ForkP f w T):=by
 obtain ⟨m0,ua,ucap,rs,hT⟩:=h;have HT:Hid (TabR f M w tb m0 ua ucap rs T):=hT;have HK:Hid (TOK T):=hk;have hlen:=hT.len;have hrs:rs.length≤64:=by have:=hk.few;omega
 obtain ⟨l0,hl1,hl2⟩:=hT.ents 0 (by omega);have t0:=hT.box.cell 0 rfl;have t1:=hT.box.cell 1 rfl;have HC0:Hid (Calls Tryz.prog 40 #[.pointer (some ⟨tb,0,none⟩)] w fun e w'=>CopdIs f w.heap.size [] (T.getD 0 fb0).en e w'∧Below w.heap.size w w'):=
  copied_any (ls:=[]) (D:=DM M w) t0 t1 hT.box.lt (rdT_nil _ _) (by simp) hl1 hl2 (hk.nd _ (getD_memF (by omega))) (fun g hg=>hg.1)
 clear hT hk hl1 hl2 t0 t1;go_enter Tryz.func14,Tryz.ntmps14
 go_wp2_with fail
 refine HC0.out.mono ?_;rintro e w1 ⟨⟨a',c',mb,l,L',rfl,hA,hM,hmb,hE,hS⟩,k1⟩;have s1:=k1.size;have e2:=below_alloc w1 (.cells #[.slice a' 0 c',.map mb,.slice none 0 0] 77);have B2:=boxA_new w1 #[.slice a' 0 c',.map mb,.slice none 0 0] 77;have s2:(w1.alloc (.cells #[.slice a' 0 c',.map mb,.slice none 0 0] 77)).heap.size=w1.heap.size+1:=by simp
 have HT2:Hid (TabR f M (w1.alloc (.cells #[.slice a' 0 c',.map mb,.slice none 0 0] 77)) tb m0 ua ucap rs T):=(HT.out.below k1).below e2;have HI:Hid (FI f w w1.heap.size T 0 (w1.alloc (.cells #[.slice a' 0 c',.map mb,.slice none 0 0] 77))):=by
  have hD:∀ g,Fr w.heap.size w1.heap.size g→FD w.heap.size (w1.alloc (.cells #[.slice a' 0 c',.map mb,.slice none 0 0] 77)).heap.size w1.heap.size (.slice none 0 0) g:=fun g hg=>⟨⟨hg.1,by have:=hg.2;omega⟩,by have:=hg.2;omega,fun e=>by cases e⟩;have ag:Agree (Fr w.heap.size w1.heap.size) w1 (w1.alloc (.cells #[.slice a' 0 c',.map mb,.slice none 0 0] 77)):=fun g hg=>e2.block g hg.2;refine ⟨⟨a',0,c',mb⟩,none,0,[],[⟨[],L'⟩],rfl,⟨B2,⟨rfl,Or.inl ⟨rfl,rfl⟩⟩,rfl,rfl,⟨rfl,hA.imp hD ag⟩,(fun k hk=>by simp at hk),fun i hi => ?_⟩,(fun g hg=>by cases hg),?_,k1.trans (e2.mono s1),s1,by omega⟩
  · obtain rfl:i=0:=by simpa using hi
    exact ⟨l,hM.kept (fun B hB=>ag B (hmb B hB)),fun B hB=>hD B (hmb B hB),hE.imp hD ag⟩
  · refine ⟨by simp;omega,fun i hi => ?_⟩
    obtain rfl:i=0:=by simp at hi;omega
    rw [getD_take _ _ _ _ (by omega)];exact ⟨HT.out.ls0.symm,hS⟩
 have HK1:Hid (Below w.heap.size w w1):=k1;clear hA hM hmb hE hS B2 s2 e2 k1 HC0
 go_upto_region 4 with fail
 generalize hw2:w1.alloc (.cells #[.slice a' 0 c',.map mb,.slice none 0 0] 77)=w2 at *;clear hw2;obtain ⟨nb,hnb⟩:∃ nb,w1.heap.size=nb:=⟨_,rfl⟩;rw [hnb] at HI s1 ⊢;have c2:=HT2.out.box.cell 2 rfl;clear hnb HK1
 go_wp2_with fail
 have HTW:Hid (∀ V,Below w.heap.size w V→TabR f M V tb m0 ua ucap rs T):=fun V hV=>HT.out.below hV;clear HT2 c2 HT
 go_loopw [19] (fun iv wr=>∃ i:Nat,iv=.int .i64 i∧i≤rs.length∧Hid (FI f w nb T i wr)) (fun iv _=>rs.length - (intOf iv).toNat)
 case atStart=>exact ⟨0,rfl,Nat.zero_le _,HI⟩
 case round=>
  obtain ⟨i,rfl,hi,HI'⟩:=hrel;clear HI;by_cases hlt:i<rs.length
  rotate_left
  · have i1:¬ (i:Int)<(rs.length:Int):=by omega
    obtain ⟨F0,u2,uc2,rs2,T2,hri,hW,hub,hSay,k,n1,n2⟩:=HI'.out;have HF:Hid (ForkP f w T (.returned (.pointer (some ⟨nb,0,none⟩))) wr):=by
     rw [List.take_of_length_le (by omega)] at hSay;exact ⟨nb,T2,rfl,⟨F0,u2,uc2,rs2,hW.keep (fun g hg=>hg.1) (fun _ _=>rfl) rfl (fun _ _=>rfl),⟨n1,n2⟩,fun g hg=>⟨(hub g hg).1,(hW.row.lt g hg).2⟩,Nat.le_refl _⟩,hSay,k⟩
    clear hW hub hSay k n1 n2 HI' hri;go_wp2
    go_ret
    exact HF.out
  obtain ⟨F0,u2,uc2,rs2,T2,hri,hW,hub,hSay,k,n1,n2⟩:=HI'.out;clear HI';obtain rfl:=hri;have i1:(rs2.length:Int)<(rs.length:Int):=by omega
  have hTr:=HTW.out wr k;obtain ⟨_,_,h3⟩:=hTr.tabL.up;rcases h3 with h3 | ⟨ub,hu,h4,h5⟩
  · rw [h3] at hlt;simp at hlt
  obtain rfl:=hu;obtain ⟨q0,q1⟩:=h5 rs2.length hlt;obtain ⟨g1,g2⟩:=hTr.loc rs2.length hlt;obtain ⟨l,he1,he2⟩:=hTr.ents (rs2.length+1) (by omega);have hnd:=HK.out.nd _ (getD_memF (T:=T) (i:=rs2.length+1) (by omega));have h64:=HK.out.sh _ (getD_memF (T:=T) (i:=rs2.length+1) (by omega));change FrM wr (rs.getD rs2.length fr0).mb l at he1;obtain ⟨F,hF⟩:∃ F,T.getD (rs2.length+1) fb0=F:=⟨_,rfl⟩;have HTF:Hid (T.getD (rs2.length+1) fb0=F):=hF;rw [hF] at g1 g2 he2 hnd h64;generalize rs.getD rs2.length fr0=r0 at *;rw [g1] at q0;have HSY:Hid (SayT T2 (T.take (rs2.length+1))∧rs2.length+1<T.length):=⟨hSay,by omega⟩;clear h5 hF hSay g1;have ea:=below_alloc wr (.cells #[.slice r0.la F.ls.length r0.lc,.map r0.mb] 74);have Ba:=boxA_new wr #[.slice r0.la F.ls.length r0.lc,.map r0.mb] 74;have sa:(wr.alloc (.cells #[.slice r0.la F.ls.length r0.lc,.map r0.mb] 74)).heap.size=wr.heap.size+1:=by simp
  have HDM:Hid (∀ g,DM M wr g→g<wr.heap.size):=fun g hg=>hg.1;have HSR:Hid (RdT (DM M wr) wr (.slice r0.la F.ls.length r0.lc) F.ls∧FrM wr r0.mb l∧EntsIs f (DM M wr) wr l F.en∧(F.en.map (·.1)).Nodup∧F.ls.length≤64):=⟨g2,he1,he2,hnd,h64⟩;clear g2 he1 he2 hnd h64 hTr
  go_upto_region 7 with fail
  obtain ⟨wa,hwa⟩:∃ wa,wr.alloc (.cells #[.slice r0.la F.ls.length r0.lc,.map r0.mb] 74)=wa:=⟨_,rfl⟩;rw [hwa] at ea Ba sa ⊢;clear hwa;have HWa:Hid (WasR f (FD w.heap.size wr.heap.size nb (.slice u2 rs2.length uc2)) wa nb F0 u2 uc2 rs2 T2):=hW.keep (fun _ h=>h) (fun g hg=>ea.block g hg.1.2) (ea.block nb n2) (fun g hg=>ea.block g (hW.row.lt g hg).2);have HUB:Hid (∀ g,(Value.slice u2 rs2.length uc2).ownBlock=some g→w.heap.size≤g∧g≠nb∧g<wr.heap.size):=fun g hg=>⟨(hub g hg).1,(hub g hg).2,(hW.row.lt g hg).2⟩;have Ka:Below w.heap.size w wa:=k.trans (ea.mono k.size);clear hub hW;refine wp_region_noPanic ?_;obtain ⟨v,hv⟩:∃ v,wa.drew=v:=⟨_,rfl⟩;have HWv:Hid (WasR f (FD w.heap.size wr.heap.size nb (.slice u2 rs2.length uc2)) v nb F0 u2 uc2 rs2 T2):=by subst hv;exact HWa.out.keep (fun _ h=>h) (fun _ _=>rfl) rfl (fun _ _=>rfl)
  have HKv:Hid (Below w.heap.size w v):=by subst hv;exact Ka.drew
  have HSV:Hid (v.heap.size=wr.heap.size+1):=by subst hv;exact sa
  have HCP:Hid (Calls Tryz.prog 40 #[.pointer (some ⟨wr.heap.size,0,none⟩)] v fun e w'=>CopdIs f v.heap.size F.ls F.en e w'∧Below v.heap.size v w'):=by
   have kv:Below wr.heap.size wr v:=by subst hv;exact ea.drew
   have hBv:BoxA v wr.heap.size 74 #[.slice r0.la F.ls.length r0.lc,.map r0.mb]:=by subst hv;exact Ba.of_blk rfl
   obtain ⟨p1,p2,p3,p4,p5⟩:=HSR.out;exact copied_any (D:=DM M wr) (hBv.cell 0 rfl) (hBv.cell 1 rfl) hBv.lt (p1.imp (fun _ h=>h) (fun g hg=>kv.block g hg.1)) p5 (p2.below kv) (p3.imp (fun _ h=>h) (fun g hg=>kv.block g hg.1)) p4 (fun g hg=>by have:=hg.1;have:=HSV.out;omega)
  have HNB:Hid (w.heap.size≤nb∧nb<wr.heap.size):=⟨n1,n2⟩;clear HWa Ka Ba ea sa q0 q1 k n1 n2 HDM HSR h4;have HC:Hid (∀ V,Below v.heap.size v V→(fun V=>V.cell? ⟨nb,2,none⟩=some (.slice u2 rs2.length uc2)) V):=fun V hV=>(HWv.out.box.below hV HWv.out.box.lt).cell 2 rfl;refine wp_region_M (m:=10) (S:=(fun V=>V.cell? ⟨nb,2,none⟩=some (.slice u2 rs2.length uc2))) (by kernel_rfl) (by rw [hv];exact HC.out v (Below.refl _ _)) (fun hS => ?_);rw [hv] at hS ⊢;clear hv;refine anyM_take (i:=0) (v:=.pointer (some ⟨nb,0,none⟩)) rfl (by kernel_rfl) (by kernel_rfl) (by kernel_rfl) (by kernel_rfl) (fun _ _ _ h=>h) (Or.inl ⟨by rfl,(by intro w hSw;(try dsimp only at hSw);go_simp)⟩) (by assumption) ?_;simp only [Act.put,List.setIfInBounds_toArray,List.set_cons_zero,List.set_cons_succ];refine anyM_take (i:=1) (v:=.pointer (some ⟨nb,0,none⟩)) rfl (by kernel_rfl) (by kernel_rfl) (by kernel_rfl) (by kernel_rfl) (fun _ _ _ h=>h) (Or.inl ⟨by rfl,(by intro w hSw;(try dsimp only at hSw);go_simp)⟩) (by assumption) ?_;simp only [Act.put,List.setIfInBounds_toArray,List.set_cons_zero,List.set_cons_succ];refine anyM_take (i:=2) (v:=.pointer (some ⟨nb,0,none⟩)) rfl (by kernel_rfl) (by kernel_rfl) (by kernel_rfl) (by kernel_rfl) (fun _ _ _ h=>h) (Or.inl ⟨by rfl,(by intro w hSw;(try dsimp only at hSw);go_simp)⟩) (by assumption) ?_;simp only [Act.put,List.setIfInBounds_toArray,List.set_cons_zero,List.set_cons_succ];refine anyM_take (i:=3) (v:=.pointer (some ⟨nb,2,none⟩)) rfl (by kernel_rfl) (by kernel_rfl) (by kernel_rfl) (by kernel_rfl) (fun _ _ _ h=>h) (Or.inl ⟨by rfl,(by intro w hSw;(try dsimp only at hSw);go_simp)⟩) (by assumption) ?_;simp only [Act.put,List.setIfInBounds_toArray,List.set_cons_zero,List.set_cons_succ];refine anyM_take (i:=4) (v:=.slice u2 rs2.length uc2) rfl (by kernel_rfl) (by kernel_rfl) (by kernel_rfl) (by kernel_rfl) (fun _ _ _ h=>h) (Or.inl ⟨by rfl,(by intro w hSw;(try dsimp only at hSw);go_simp)⟩) (by assumption) ?_;simp only [Act.put,List.setIfInBounds_toArray,List.set_cons_zero,List.set_cons_succ];refine anyM_one (i:=5) rfl (by kernel_rfl) (by kernel_rfl) (fun K hK => ?_);go_simp
  refine HCP.out.mono ?_;rintro e w1 ⟨⟨a',c',mb',l',L',rfl,hA,hM,hmb,hE,hS'⟩,q1⟩;have k1:Below v.heap.size v w1:=q1;have j1:=HC.out w1 k1;have HX:Hid (RdT (Fr v.heap.size w1.heap.size) w1 (.slice a' F.ls.length c') F.ls∧FrM w1 mb' l'∧(∀ B,mb'=some B→Fr v.heap.size w1.heap.size B)∧EntsIs f (Fr v.heap.size w1.heap.size) w1 l' L'∧SayB L' F.en):=⟨hA,hM,hmb,hE,hS'⟩;clear hA hM hmb hE hS';go_simp
  refine hK.out _ _ (j1) (fun _ => ?_);clear hK K;refine anyM_one (i:=6) rfl (by kernel_rfl) (by kernel_rfl) (fun K hK => ?_);go_simp
  refine hK.out _ _ (HC.out _ (k1.trans ((below_alloc w1 _).mono k1.size))) (fun _ => ?_);clear hK K;refine anyM_one (i:=7) rfl (by kernel_rfl) (by kernel_rfl) (fun K hK => ?_);refine step_append_fr (rs:=rs2) (r:=⟨a',F.ls.length,c',mb'⟩) (p:=w1.heap.size) (by rfl) _ _ (by rfl) (by rfl) (by rfl) (own_blockN HWv.out.row (fun g hg=>(k1.trans ((below_alloc w1 _).mono k1.size)).block g (HWv.out.row.lt g hg).2)) (boxA_new w1 _ _) (by omega) ?_;intro v' w3 hR3 hG3 hB3;obtain ⟨ua',ucap',rfl⟩:=row_form2S hR3;have HR3:Hid (w3.ownsRow 0 74 2 (.slice ua' (rs2.length+1) ucap') (rs2.length+1) (frRow (rs2++[⟨a',F.ls.length,c',mb'⟩]))):=hR3;have HG3:Hid ((w1.alloc (.cells #[.slice a' F.ls.length c',.map mb'] 74)).grownBy w3 (Value.slice u2 rs2.length uc2).ownBlock):=hG3;have HB3:Hid ((Value.slice ua' (rs2.length+1) ucap').ownBlock=(Value.slice u2 rs2.length uc2).ownBlock∨(Value.slice ua' (rs2.length+1) ucap').ownBlock=some (w1.alloc (.cells #[.slice a' F.ls.length c',.map mb'] 74)).heap.size):=hB3;have BT3:BoxA w3 nb 77 #[.slice F0.la 0 F0.lc,.map F0.mb,.slice u2 rs2.length uc2]:=boxA_gr (HWv.out.box.below (k1.trans ((below_alloc w1 _).mono k1.size)) HWv.out.box.lt) HG3.out (fun e=>(HUB.out nb e).2.1 rfl);have c0:=BT3.cell 0 rfl;have c1:=BT3.cell 1 rfl;have c2:=BT3.cell 2 rfl;have f2:=BT3.frozen 2;have HT3:Hid (BoxA (w3.setCell ⟨nb,2,none⟩ (.slice ua' (rs2.length+1) ucap')) nb 77 #[.slice F0.la 0 F0.lc,.map F0.mb,.slice ua' (rs2.length+1) ucap']):=boxA_t2 BT3 _;clear hR3 hG3 hB3;refine hK.out _ _ (c2) (fun _ => ?_);clear hK K;simp only [Act.put,List.setIfInBounds_toArray,List.set_cons_zero,List.set_cons_succ];refine anyM_one (i:=8) rfl (by kernel_rfl) (by kernel_rfl) (fun K hK => ?_);go_simp
  refine hK.out _ _ (c2) (fun _ => ?_);clear hK K;refine anyM_take (i:=9) (v:=.pointer (some ⟨nb,2,none⟩)) rfl (by kernel_rfl) (by kernel_rfl) (by kernel_rfl) (by kernel_rfl) (fun _ _ _ h=>h) (Or.inl ⟨by rfl,(by intro w hSw;(try dsimp only at hSw);go_simp)⟩) (by assumption) ?_;simp only [Act.put,List.setIfInBounds_toArray,List.set_cons_zero,List.set_cons_succ];refine anyM_last rfl (by kernel_rfl) (fun K hK => ?_);go_simp
  refine hK.out _ _ (trivial) (fun _ => ?_);clear hK K;refine wpAnyH_done (by kernel_rfl) ?_ _;have HF:Hid (FI f w nb T (rs2.length+1) (w3.setCell ⟨nb,2,none⟩ (.slice ua' (rs2.length+1) ucap'))):=by
   obtain ⟨p1,p2,p3,p4,p5⟩:=HX.out;obtain ⟨n1,n2⟩:=HNB.out;have hsv:=HSV.out;have hs1:=k1.size;have hg:=HG3.out;have hgs:=hg.size;rw [World.size_alloc] at hgs;have hlt:=HR3.out.lt;have hzs:(w3.setCell ⟨nb,2,none⟩ (.slice ua' (rs2.length+1) ucap')).heap.size=w3.heap.size:=by simp [World.setCell]
   have hnew:∀ g,(Value.slice ua' (rs2.length+1) ucap').ownBlock=some g→((Value.slice u2 rs2.length uc2).ownBlock=some g∨g=w1.heap.size+1):=fun g hgo=>by
    rcases HB3.out with e | e
    · exact Or.inl (by rw [← e];exact hgo)
    · rw [hgo,World.size_alloc] at e
      exact Or.inr (Option.some.inj e)
   have hblk:∀ g,g<w1.heap.size→g≠nb→(Value.slice u2 rs2.length uc2).ownBlock≠some g→(w3.setCell ⟨nb,2,none⟩ (.slice ua' (rs2.length+1) ucap')).heap[g]? = w1.heap[g]?:=fun g h1 h2 h3=>by
    rw [set_oth _ h2,hg.block g (by rw [World.size_alloc];omega) (fun e=>h3 e.symm),(below_alloc w1 _).block g h1]
   have hD':∀ g,Fr v.heap.size w1.heap.size g→FD w.heap.size (w3.setCell ⟨nb,2,none⟩ (.slice ua' (rs2.length+1) ucap')).heap.size nb (.slice ua' (rs2.length+1) ucap') g:=fun g hg'=>⟨⟨by have:=hg'.1;omega,by have:=hg'.2;omega⟩,by have:=hg'.1;omega,fun e=>by
    have h1:=hg'.1;have h2:=hg'.2;rcases hnew g e with e | e
    · have:=(HUB.out g e).2.2;omega
    · omega⟩
   have ag':Agree (Fr v.heap.size w1.heap.size) w1 (w3.setCell ⟨nb,2,none⟩ (.slice ua' (rs2.length+1) ucap')):=fun g hg'=>hblk g hg'.2 (by have:=hg'.1;omega) (fun e=>by have:=(HUB.out g e).2.2;have:=hg'.1;omega);refine ⟨F0,ua',ucap',rs2++[⟨a',F.ls.length,c',mb'⟩],T2++[⟨F.ls,L'⟩],by simp,?_,fun g hgo => ?_,HSY.out.1.push HSY.out.2 (by rw [HTF.out]) (by rw [HTF.out];exact p5),?_,n1,by omega⟩
   · rw [show (rs2++[(⟨a',F.ls.length,c',mb'⟩:FRep)]).length=rs2.length+1 by simp]
     refine HWv.out.push (F:=⟨F.ls,L'⟩) (r:=⟨a',F.ls.length,c',mb'⟩) (fun g hg'=>⟨⟨hg'.1.1,by have:=hg'.1.2;omega⟩,hg'.2.1,fun e => ?_⟩) (fun g hg' => ?_) HT3.out (own_blockN HR3.out (fun g hgo=>set_oth _ ?_)) ⟨rfl,p1.imp hD' ag'⟩ ⟨l',p2.kept (fun B hB=>ag' B (p3 B hB)),fun B hB=>hD' B (p3 B hB),p4.imp hD' ag'⟩
     · rcases hnew g e with e | e
       · exact hg'.2.2 e
       · have:=hg'.1.2;omega
     · rw [hblk g (by have:=hg'.1.2;omega) hg'.2.1 hg'.2.2,k1.block g (by have:=hg'.1.2;omega)]
     · rcases hnew g hgo with e | e
       · exact (HUB.out g e).2.1
       · omega
   · rw [show (rs2++[(⟨a',F.ls.length,c',mb'⟩:FRep)]).length=rs2.length+1 by simp] at hgo
     rcases hnew g hgo with e | e
     · exact ⟨(HUB.out g e).1,(HUB.out g e).2.1⟩
     · have:=HKv.out.size;exact ⟨by omega,by omega⟩
   · refine ⟨hg.os.trans (k1.os.trans HKv.out.os),hg.tape.trans (k1.tape.trans HKv.out.tape),hg.output.trans (k1.output.trans HKv.out.output),by have:=HKv.out.size;omega,fun g hg' => ?_⟩
     have:=HKv.out.size;rw [hblk g (by omega) (by omega) (fun e=>by have:=(HUB.out g e).1;omega),k1.block g (by omega),HKv.out.block g hg']
  clear HWv HKv HSV HCP HC HX HR3 HG3 HB3 HT3 HUB HSY HTF c0 c1 c2 f2 j1 k1 q1 hS HNB BT3;refine NoPanic.normal ?_;go_wp2
  go_roundw
  case rel=>exact ⟨rs2.length+1,by go_num,by omega,HF⟩
  case measure=>simp [intOf];omega
end
end Go.Proofs.YtimfnalpmmkndaaGreatDoor
