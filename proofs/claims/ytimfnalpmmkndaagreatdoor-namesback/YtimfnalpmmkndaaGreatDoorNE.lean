/- array.Copy of any array: itself where it is right, else the zero array. -/
import Derived.Test.YtimfnalpmmkndaaGreatDoorAN
import Derived.Test.YtimfnalpmmkndaaGreatDoorSA
import Derived.Lib.MapLaws
import Derived.Test.YtimfnalpmmkndaaGreatDoorND
set_option maxRecDepth 100000
set_option maxHeartbeats 16000000
set_option linter.unusedVariables false
set_option linter.unusedSimpArgs false
namespace Go.Proofs.YtimfnalpmmkndaaGreatDoor
variable {f B C R ty b o:Nat} {D D':Nat→Prop} {w w':World} {u0 u1 u2 u3 u4 u5 u6 u7 u8 u9 u10 u11 u12:Value} {mb:Option Nat}
section
open Go.RowKit
noncomputable def cpT (t:Tr):Tr:=if (measF 16 t).isSome=true then t else tr0
theorem workCN {L:Nat} {t:Tr} (h:∀ x∈t.kids,(measI (measF L) x).isSome=true):WorkC f D t.kids t.kids:=by
 intro j x W hj hx hD;have hm:t.kids.getD j tr0∈t.kids:=by
  rw [List.getD_eq_getElem?_getD,List.getElem?_eq_getElem hj];exact List.getElem_mem hj
 exact copyOf_all f L D W x _ hD hx (h _ hm)
theorem arV_zero (f:Nat) (D:Nat→Prop) (w:World):ArV (f+1) D w (.slice none 0 0) (.slice none 0 0) tr0:=⟨⟨by simp [tr0,Tr.ns],none,0,rfl,Nat.le_refl _,by omega,fun _=>rfl,Or.inl rfl⟩,none,0,rfl,Nat.le_refl _,by omega,fun _=>rfl,Or.inl rfl⟩
section
variable {W:World} {f:Nat} {D:Nat→Prop} {x1 x2:Option Addr} {y1 y2:Nat} {t:Tr}
theorem copy3_any (h:ArV (f+1) D W (.slice x1 t.ns.length y1) (.slice x2 t.kids.length y2) t) (hD:∀ g,D g→g<W.heap.size) :
    Calls Tryz.prog 113 #[.agg #[.slice x1 t.ns.length y1,.slice x2 t.kids.length y2]] W fun e w'=>∃ z1 u1 z2 u2,e=.returned (.agg #[.slice z1 (cpT t).ns.length u1,.slice z2 (cpT t).kids.length u2])∧ArV (f+1) (Fr W.heap.size w'.heap.size) w' (.slice z1 (cpT t).ns.length u1) (.slice z2 (cpT t).kids.length u2) (cpT t)∧Below W.heap.size W w':=by
 have X0:=boxA_new W #[.slice x1 t.ns.length y1,.slice x2 t.kids.length y2] 29;have k0:=below_alloc W (.cells #[.slice x1 t.ns.length y1,.slice x2 t.kids.length y2] 29);have k1:=below_alloc (W.alloc (.cells #[.slice x1 t.ns.length y1,.slice x2 t.kids.length y2] 29)) (.cells #[.slice none 0 0,.slice none 0 0] 29);have R:=boxA_new (W.alloc (.cells #[.slice x1 t.ns.length y1,.slice x2 t.kids.length y2] 29)) #[.slice none 0 0,.slice none 0 0] 29;rw [World.size_alloc] at R;have X:=X0.below k1 (by simp);have g:Below W.heap.size W _:=k0.trans (k1.mono (by simp));have sv:((W.alloc (.cells #[.slice x1 t.ns.length y1,.slice x2 t.kids.length y2] 29)).alloc (.cells #[.slice none 0 0,.slice none 0 0] 29)).heap.size=W.heap.size+1+1:=by simp
 have z0:=X.cell 0 rfl;have z1:=X.cell 1 rfl;have H:Hid (ArV (f+1) D W (.slice x1 t.ns.length y1) (.slice x2 t.kids.length y2) t):=h;have HD:Hid (∀ g,D g→g<W.heap.size):=hD;clear h hD;go_enter Tryz.func113,Tryz.ntmps113
 go_wp2_with fail
 generalize hA:(W.alloc (.cells #[.slice x1 t.ns.length y1,.slice x2 t.kids.length y2] 29)).alloc (.cells #[.slice none 0 0,.slice none 0 0] 29)=v at *;clear hA k0 k1 X0;refine (right3_any (fun g' hg=>by have:=HD.out g' hg;omega) (H.out.agree (Agree.of g HD.out))).mono ?_;rintro e w1 ⟨rfl,q1⟩;have s1:=q1.size;have X1:=X.below q1 (by omega);have R1:=R.below q1 (by omega);have k1:Below W.heap.size W w1:=g.trans (q1.mono (by omega));clear z0 z1
 cases hR:(measF 16 t).isSome with
 | true=>
  obtain ⟨L',hL',m1,m2,m3,m4,m5⟩:=measF_some hR;have HW:Hid (WorkC f D t.kids t.kids):=workCN m5;have hs1:t.ns.length*8≤140737488355328:=by omega
  have hs2:t.kids.length*96≤140737488355328:=by omega
  have HT:Hid (cpT t=t):=by unfold Hid cpT;rw [if_pos hR]
  have v0:=X1.cell 0 rfl;have v1:=X1.cell 1 rfl;clear hR m1 m2 m3 m4 m5 hL' L';have T:=throughC_any (H.out.agree (Agree.of k1 HD.out)) (fun g' hg=>by have:=HD.out g' hg;omega) hs1 hs2 rfl rfl HW.out
  go_wp2_with fail
  refine T.mono ?_;rintro e w3 ⟨z1,p1,z2,p2,rfl,hv,q3⟩;clear T v0 v1;have s3:=q3.size;have HV:Hid (ArV (f+1) (Fr w1.heap.size w3.heap.size) w3 (.slice z1 t.ns.length p1) (.slice z2 t.kids.length p2) t):=hv;clear hv;have R3:=R1.below q3 (by omega);have c0:=R3.cell 0 rfl;have c1:=R3.cell 1 rfl;have f0:=R3.frozen 0;have f1:=R3.frozen 1;have Rd2:=R3.set2 (.slice z1 t.ns.length p1) (.slice z2 t.kids.length p2);have K3:Below W.heap.size W w3:=k1.trans (q3.mono (by omega));have KE:=(K3.setCell (p:=⟨W.heap.size+1,0,none⟩) (show W.heap.size≤W.heap.size+1 by omega) (.slice z1 t.ns.length p1)).setCell (p:=⟨W.heap.size+1,1,none⟩) (show W.heap.size≤W.heap.size+1 by omega) (.slice z2 t.kids.length p2);have HE:Hid (ArV (f+1) (Fr W.heap.size ((w3.setCell ⟨W.heap.size+1,0,none⟩ (.slice z1 t.ns.length p1)).setCell ⟨W.heap.size+1,1,none⟩ (.slice z2 t.kids.length p2)).heap.size) ((w3.setCell ⟨W.heap.size+1,0,none⟩ (.slice z1 t.ns.length p1)).setCell ⟨W.heap.size+1,1,none⟩ (.slice z2 t.kids.length p2)) (.slice z1 t.ns.length p1) (.slice z2 t.kids.length p2) t):=by
   refine ArV.imp ?_ ?_ (f+1) (f+1) _ _ _ (Nat.le_refl _) HV.out
   · rintro g' ⟨h1,h2⟩
     exact ⟨by omega,by simp [World.setCell];exact h2⟩
   · rintro g' ⟨h1,h2⟩
     simp [World.setCell,Array.getElem?_modify,(show ¬ W.heap.size+1=g' by omega)]
  have HKE:Hid (Below W.heap.size W _):=KE;clear KE K3 HV;go_wp2
  rw [HT.out];have r0:=Rd2.cell 0 rfl;have r1:=Rd2.cell 1 rfl;refine bodyPost_ret (v:=.agg #[.slice z1 t.ns.length p1,.slice z2 t.kids.length p2]) ?_ rfl ⟨z1,p1,z2,p2,rfl,HE.out,HKE.out⟩;simp [results,Tryz.results113,go_sem,r0,r1]
 | false=>
  have HT:Hid (cpT t=tr0):=by unfold Hid cpT;rw [hR];rfl
  have c0:=R1.cell 0 rfl;have c1:=R1.cell 1 rfl;have f0:=R1.frozen 0;have f1:=R1.frozen 1;have Rd2:=R1.set2 (.slice none 0 0) (.slice none 0 0);have KE:=(k1.setCell (p:=⟨W.heap.size+1,0,none⟩) (show W.heap.size≤W.heap.size+1 by omega) (.slice none 0 0)).setCell (p:=⟨W.heap.size+1,1,none⟩) (show W.heap.size≤W.heap.size+1 by omega) (.slice none 0 0);have HKE:Hid (Below W.heap.size W _):=KE;clear KE hR;go_wp2
  rw [HT.out];have r0:=Rd2.cell 0 rfl;have r1:=Rd2.cell 1 rfl;refine bodyPost_ret (v:=.agg #[.slice none 0 0,.slice none 0 0]) ?_ rfl ⟨none,0,none,0,rfl,arV_zero _ _ _,HKE.out⟩;simp [results,Tryz.results113,go_sem,r0,r1]
end
abbrev EntS:=ByteArray×Value
def atS (z:Value) (k:ByteArray):List EntS→Value
 | []=>z
 | p :: l=>if p.1=k then p.2 else atS z k l
def hasS (k:ByteArray):List EntS→Bool
 | []=>false
 | p :: l=>if p.1=k then true else hasS k l
def putS (k:ByteArray) (v:Value):List EntS→List EntS
 | []=>[(k,v)]
 | p :: l=>if p.1=k then (k,v) :: l else p :: putS k v l
def delS (k:ByteArray):List EntS→List EntS
 | []=>[]
 | p :: l=>if p.1=k then l else p :: delS k l
def BornOK (E:Array MapEntry) (n:Nat):Prop:=(E.toList.map (·.born)).Nodup∧∀ x∈E.toList,x.born<n
theorem bornOK_push {E:Array MapEntry} {n:Nat} (h:BornOK E n) (k v:Value):BornOK (E.push { key:=k,val:=v,born:=n }) (n+1):=by
 obtain ⟨h1,h2⟩:=h;refine ⟨?_,fun x hx => ?_⟩
 · rw [Array.toList_push,List.map_append,List.nodup_append]
   refine ⟨h1,by simp,fun a ha b hb => ?_⟩;obtain ⟨x,hx,rfl⟩:=List.mem_map.1 ha;have:=h2 x hx;simp at hb;omega
 · rw [Array.toList_push,List.mem_append] at hx
   rcases hx with hx | hx
   · have:=h2 x hx;omega
   · rw [List.mem_singleton.1 hx];exact Nat.lt_succ_self n
theorem bornOK_modify {E:Array MapEntry} {n:Nat} (h:BornOK E n) (j:Nat) (k v:Value):BornOK (E.modify j fun e=>{ e with key:=k,val:=v }) n:=by
 have e:(E.modify j fun e=>{ e with key:=k,val:=v }).toList.map (·.born)=E.toList.map (·.born):=by
  refine List.ext_getElem? fun m => ?_;rw [List.getElem?_map,Array.getElem?_toList,Array.getElem?_modify,List.getElem?_map,Array.getElem?_toList];by_cases q:j=m
  · rw [if_pos q];cases E[m]? <;> rfl
  · rw [if_neg q]
 obtain ⟨h1,h2⟩:=h;refine ⟨by rw [e];exact h1,fun x hx => ?_⟩;have hm:x.born∈E.toList.map (·.born):=by rw [← e];exact List.mem_map.2 ⟨x,hx,rfl⟩
 obtain ⟨y,hy,hyx⟩:=List.mem_map.1 hm;rw [← hyx];exact h2 y hy
theorem bornOK_erase {E:Array MapEntry} {n:Nat} (h:BornOK E n) (j:Nat):BornOK (E.eraseIdxIfInBounds j) n:=by
 obtain ⟨h1,h2⟩:=h;have hs:((E.eraseIdxIfInBounds j).toList).Sublist E.toList:=by rw [Array.toList_eraseIdxIfInBounds];exact List.eraseIdx_sublist _ _
 exact ⟨h1.sublist (hs.map _),fun x hx=>h2 x (hs.subset hx)⟩
def MapS (w:World) (B:Nat) (l:List EntS):Prop:=∃ E n,w.heap[B]? = some (.map E n)∧E.toList.map (fun x=>(x.key,x.val))=l.map (fun p=>(Value.string p.1,p.2))∧BornOK E n
theorem MapS.new (w:World):MapS (w.alloc (.map #[] 0)) w.heap.size []:=⟨#[],0,heap_alloc_new w _,rfl,by simp,by simp⟩
theorem MapS.of_block {l:List EntS} (h:MapS w B l) (k:w'.heap[B]? = w.heap[B]?):MapS w' B l:=by
 obtain ⟨E,n,h1,h2⟩:=h;exact ⟨E,n,by rw [k];exact h1,h2⟩
theorem MapS.lt {l:List EntS} (h:MapS w B l):B<w.heap.size:=by
 obtain ⟨E,n,h1,_⟩:=h;exact lt_of_block h1
theorem MapS.below {l:List EntS} (h:MapS w B l) (k:Below C w w') (hC:B<C):MapS w' B l:=h.of_block (k.block B hC)
theorem find_S {k:ByteArray}:∀ (E:List MapEntry) (l:List EntS) (i:Nat),E.map (fun x=>(x.key,x.val))=l.map (fun p=>(Value.string p.1,p.2)) →
    (Instr.findNow .string (.string k) E i=some none∧hasS k l=false∧(∀ z,atS z k l=z)∧(∀ v,putS k v l=l++[(k,v)])∧delS k l=l) ∨
    (∃ j v,Instr.findNow .string (.string k) E i=some (some (i+j,v))∧hasS k l=true∧(∀ z,atS z k l=v)∧j<l.length∧l[j]? = some (k,v)∧(∀ u,putS k u l=l.set j (k,u))∧delS k l=l.eraseIdx j)
 | [],[],_,_=>Or.inl ⟨rfl,rfl,fun _=>rfl,fun _=>rfl,rfl⟩
 | [],_ :: _,_,h=>by simp at h
 | _ :: _,[],_,h=>by simp at h
 | x :: E,p :: l,i,h=>by
  simp only [List.map_cons,List.cons.injEq,Prod.mk.injEq] at h;obtain ⟨⟨h1,h2⟩,h3⟩:=h;obtain ⟨r,hr,hrk⟩:=MapKept.sameNow_of_keys (d:=.string) (a:=.string k) (b:=x.key) (by simp [MapKept.IsKey]) (by rw [h1];simp [MapKept.IsKey]);rw [h1] at hrk;by_cases hp:p.1=k
  · have hrt:r=true:=hrk.2 (by rw [hp])
    subst hrt;refine Or.inr ⟨0,p.2,by simp [Instr.findNow,hr,h2],by rw [hasS,if_pos hp],fun z=>by rw [atS,if_pos hp],by simp,?_,fun u=>by rw [putS,if_pos hp];rfl,by rw [delS,if_pos hp];rfl⟩;rw [← hp];rfl
  · have hrf:r=false:=by
     cases r with
     | false=>rfl
     | true=>exact absurd (Value.string.inj (hrk.1 rfl)).symm hp
    subst hrf;rcases find_S (k:=k) E l (i+1) h3 with ⟨g1,g2,g3,g4,g5⟩ | ⟨j,v,g1,g2,g3,g4,g5,g6,g7⟩
    · exact Or.inl ⟨by simp [Instr.findNow,hr,g1],by rw [hasS,if_neg hp];exact g2,fun z=>by rw [atS,if_neg hp];exact g3 z,fun v=>by rw [putS,if_neg hp,g4];rfl,by rw [delS,if_neg hp,g5]⟩
    · refine Or.inr ⟨j+1,v,by simp [Instr.findNow,hr,g1];omega,by rw [hasS,if_neg hp];exact g2,fun z=>by rw [atS,if_neg hp];exact g3 z,by simp;omega,by simpa using g5,fun u=>by rw [putS,if_neg hp,g6];rfl,by rw [delS,if_neg hp,g7];rfl⟩
theorem map_modify {E:Array MapEntry} {l:List EntS} {j:Nat} {k:ByteArray} {v:Value} (h:E.toList.map (fun x=>(x.key,x.val))=l.map (fun p=>(Value.string p.1,p.2))) (hj:j<l.length) :
    (E.modify j fun e=>{ e with key:=.string k,val:=v }).toList.map (fun x=>(x.key,x.val))=(l.set j (k,v)).map (fun p=>(Value.string p.1,p.2)):=by
 have hl:E.toList.length=l.length:=by have:=congrArg List.length h;simpa using this
 refine List.ext_getElem? fun m => ?_;rw [List.getElem?_map,Array.getElem?_toList,Array.getElem?_modify,List.getElem?_map,List.getElem?_set];have hm:=congrArg (fun q=>q[m]?) h;simp only [List.getElem?_map,Array.getElem?_toList] at hm;by_cases e:j=m
 · subst e
   rw [if_pos rfl,if_pos rfl,if_pos hj];have hE:j<E.size:=by
    have:E.toList.length=E.size:=by simp
    omega
   rw [Array.getElem?_eq_getElem hE];rfl
 · rw [if_neg e,if_neg e]
   exact hm
theorem map_eraseI {α β:Type} (f:α→β):∀ (l:List α) (j:Nat),(l.eraseIdx j).map f=(l.map f).eraseIdx j
 | [],_=>by simp
 | _ :: _,0=>rfl
 | _ :: l,j+1=>by simp [map_eraseI f l j]
theorem map_erase {E:Array MapEntry} {l:List EntS} {j:Nat} (h:E.toList.map (fun x=>(x.key,x.val))=l.map (fun p=>(Value.string p.1,p.2))) :
    (E.eraseIdxIfInBounds j).toList.map (fun x=>(x.key,x.val))=(l.eraseIdx j).map (fun p=>(Value.string p.1,p.2)):=by
 rw [Array.toList_eraseIdxIfInBounds,map_eraseI,h,map_eraseI]
section
variable {P:Program} {mty kt et:TypeId} {w:World} {B:Nat} {l:List EntS} {k:ByteArray}
theorem MapS.get {z:Value} (hm:P.underlying mty=some (.map kt et)) (hk:P.underlying kt=some .string) (hz:(zeroValue et).run P w=.ok z w) (h:MapS w B l):(Instr.lookup mty (.map (some B)) (.string k) true).run P w=.ok (.tuple #[atS z k l,.bool (hasS k l)]) w:=by
 obtain ⟨E,n,hb,hE,hBO⟩:=h;have hc:(Instr.checkKey E.isEmpty 10000 kt (.string k)).run P w=.ok () w:=MapKept.run_checkKey (k:=.string k) hk (by simp [MapKept.IsKey]) _ 9999;rcases find_S (k:=k) E.toList l 0 hE with ⟨g1,g2,g3,_⟩ | ⟨j,v,g1,g2,g3,_⟩
 · rw [g2,g3]
   simp [Instr.lookup,run_underlying hm,MapKept.run_getObj_map hb,hc,MapKept.run_findKey hk g1,hz,Result.andThen]
 · rw [g2,g3]
   simp [Instr.lookup,run_underlying hm,MapKept.run_getObj_map hb,hc,MapKept.run_findKey hk g1,Result.andThen]
theorem MapS.put (hm:P.underlying mty=some (.map kt et)) (hk:P.underlying kt=some .string) (h:MapS w B l) (v:Value) :
    ∃ w',(Instr.mapUpdate mty (.map (some B)) (.string k) v).run P w=.ok () w'∧MapS w' B (putS k v l)∧Kp B w w'∧w'.heap.size=w.heap.size:=by
 obtain ⟨E,n,hb,hE,hBO⟩:=h;have hc:(Instr.checkKey false 10000 kt (.string k)).run P w=.ok () w:=MapKept.run_checkKey (k:=.string k) hk (by simp [MapKept.IsKey]) false 9999;have hset:∀ o:Obj,Kp B w { w with heap:=w.heap.setIfInBounds B o }:=fun o=>⟨rfl,rfl,rfl,by simp,fun g hg hgB=>by rw [Array.getElem?_setIfInBounds,if_neg (Ne.symm hgB)]⟩;rcases find_S (k:=k) E.toList l 0 hE with ⟨g1,g2,g3,g4,g5⟩ | ⟨j,u,g1,g2,g3,g4,g5,g6,g7⟩
 · refine ⟨{ w with heap:=w.heap.setIfInBounds B (.map (E.push { key:=.string k,val:=v,born:=n }) (n+1)) },?_,⟨E.push { key:=.string k,val:=v,born:=n },n+1,?_,?_,bornOK_push hBO _ _⟩,hset _,by simp⟩
   · simp [Instr.mapUpdate,run_underlying hm,MapKept.run_getObj_map hb,hc,MapKept.run_findKey hk g1,MapKept.run_setObj_map _ hb,Result.andThen]
   · rw [Array.getElem?_setIfInBounds]
     simp [lt_of_block hb]
   · rw [g4]
     simp [hE]
 · have hEj:(E[0+j]?).map (·.key)=some (.string k):=by
    have hm2:=congrArg (fun q=>q[j]?) hE;simp only [List.getElem?_map,Array.getElem?_toList,g5,Option.map_some] at hm2;rw [Nat.zero_add]
    cases hx:E[j]? with
    | none=>rw [hx] at hm2;simp at hm2
    | some y=>
     rw [hx] at hm2;simp at hm2;simp [hm2.1]
   refine ⟨{ w with heap:=w.heap.setIfInBounds B (.map (E.modify (0+j) fun e=>{ e with key:=.string k,val:=v }) n) },?_,⟨E.modify (0+j) fun e=>{ e with key:=.string k,val:=v },n,?_,?_,bornOK_modify hBO _ _ _⟩,hset _,by simp⟩
   · have hst:=MapKept.run_keyThatStays (P:=P) (w:=w) (d:=.string) (k:=.string k) (by simp [MapKept.IsKey])
     simp only [Instr.mapUpdate,Sem.run_bind,run_underlying hm,MapKept.run_getObj_map hb,hc,MapKept.run_findKey hk g1,Result.andThen,hEj,Option.getD_some,hst,MapKept.run_setObj_map _ hb]
   · rw [Array.getElem?_setIfInBounds]
     simp [lt_of_block hb]
   · rw [g6,Nat.zero_add]
     exact map_modify hE g4
theorem MapS.del {ty:TypeId} (hm:P.underlying mty=some (.map kt et)) (hk:P.underlying kt=some .string) (h:MapS w B l) :
    ∃ w',(Builtin.delete_ #[mty,kt] ty #[.map (some B),.string k]).run P w=.ok (.tuple #[]) w'∧MapS w' B (delS k l)∧Kp B w w'∧w'.heap.size=w.heap.size:=by
 obtain ⟨E,n,hb,hE,hBO⟩:=h;have hc:(Instr.checkKey E.isEmpty 10000 kt (.string k)).run P w=.ok () w:=MapKept.run_checkKey (k:=.string k) hk (by simp [MapKept.IsKey]) _ 9999;have hset:∀ o:Obj,Kp B w { w with heap:=w.heap.setIfInBounds B o }:=fun o=>⟨rfl,rfl,rfl,by simp,fun g hg hgB=>by rw [Array.getElem?_setIfInBounds,if_neg (Ne.symm hgB)]⟩;rcases find_S (k:=k) E.toList l 0 hE with ⟨g1,g2,g3,g4,g5⟩ | ⟨j,u,g1,g2,g3,g4,g5,g6,g7⟩
 · refine ⟨{ w with heap:=w.heap.setIfInBounds B (.map E n) },?_,⟨E,n,?_,?_,hBO⟩,hset _,by simp⟩
   · simp [Builtin.delete_,run_underlying hm,MapKept.run_getObj_map hb,hc,MapKept.run_findKey hk g1,MapKept.run_setObj_map _ hb,Result.andThen]
   · rw [Array.getElem?_setIfInBounds]
     simp [lt_of_block hb]
   · rw [g5];exact hE
 · refine ⟨{ w with heap:=w.heap.setIfInBounds B (.map (E.eraseIdxIfInBounds (0+j)) n) },?_,⟨E.eraseIdxIfInBounds (0+j),n,?_,?_,bornOK_erase hBO _⟩,hset _,by simp⟩
   · simp [Builtin.delete_,run_underlying hm,MapKept.run_getObj_map hb,hc,MapKept.run_findKey hk g1,MapKept.run_setObj_map _ hb,Result.andThen]
   · rw [Array.getElem?_setIfInBounds]
     simp [lt_of_block hb]
   · rw [g7,Nat.zero_add]
     exact map_erase hE
end
abbrev bnd0:Array Value:=#[.int .i64 0,.slice none 0 0,.slice none 0 0,.string ⟨#[]⟩,.string ⟨#[]⟩,.string ⟨#[]⟩,.string ⟨#[]⟩,.slice none 0 0,.slice none 0 0,.slice none 0 0,.slice none 0 0,.bool false,.int .i64 0]
structure BV where
 k:Int
 a1:Option Addr
 n1:Nat
 y1:Nat
 a2:Option Addr
 n2:Nat
 y2:Nat
 s1:ByteArray
 s2:ByteArray
 s3:ByteArray
 s4:ByteArray
 b1:Option Addr
 m1:Nat
 z1:Nat
 b2:Option Addr
 m2:Nat
 z2:Nat
 b3:Option Addr
 m3:Nat
 z3:Nat
 b4:Option Addr
 m4:Nat
 z4:Nat
 br:Bool
 ln:Int
abbrev BV.cells (x:BV):Array Value:=#[.int .i64 x.k,.slice x.a1 x.n1 x.y1,.slice x.a2 x.n2 x.y2,.string x.s1,.string x.s2,.string x.s3,.string x.s4,.slice x.b1 x.m1 x.z1,.slice x.b2 x.m2 x.z2,.slice x.b3 x.m3 x.z3,.slice x.b4 x.m4 x.z4,.bool x.br,.int .i64 x.ln]
abbrev bv0:BV:=⟨0,none,0,0,none,0,0,⟨#[]⟩,⟨#[]⟩,⟨#[]⟩,⟨#[]⟩,none,0,0,none,0,0,none,0,0,none,0,0,false,0⟩
def Is13 (v:Value):Prop:=∃ x:BV,v=.agg x.cells
abbrev ch13 (w:World) (R:Nat) (v0 v1 v2 v3 v4 v5 v6 v7 v8 v9 v10 v11 v12:Value):World:=(((((((((((((w.setCell ⟨R,0,none⟩ v0).setCell ⟨R,1,none⟩ v1).setCell ⟨R,2,none⟩ v2).setCell ⟨R,3,none⟩ v3).setCell ⟨R,4,none⟩ v4).setCell ⟨R,5,none⟩ v5).setCell ⟨R,6,none⟩ v6).setCell ⟨R,7,none⟩ v7).setCell ⟨R,8,none⟩ v8).setCell ⟨R,9,none⟩ v9).setCell ⟨R,10,none⟩ v10).setCell ⟨R,11,none⟩ v11).setCell ⟨R,12,none⟩ v12)
theorem set13 (h:BoxA w R ty #[u0,u1,u2,u3,u4,u5,u6,u7,u8,u9,u10,u11,u12]) (v0 v1 v2 v3 v4 v5 v6 v7 v8 v9 v10 v11 v12:Value):BoxA (ch13 w R v0 v1 v2 v3 v4 v5 v6 v7 v8 v9 v10 v11 v12) R ty #[v0,v1,v2,v3,v4,v5,v6,v7,v8,v9,v10,v11,v12]:=by
 unfold BoxA at h ⊢;simp [World.setCell,Array.getElem?_modify,h]
theorem below13 {a:World} (h:Below C a w) (hR:C≤R) (v0 v1 v2 v3 v4 v5 v6 v7 v8 v9 v10 v11 v12:Value):Below C a (ch13 w R v0 v1 v2 v3 v4 v5 v6 v7 v8 v9 v10 v11 v12):=(Below.setCell (Below.setCell (Below.setCell (Below.setCell (Below.setCell (Below.setCell (Below.setCell (Below.setCell (Below.setCell (Below.setCell (Below.setCell (Below.setCell (Below.setCell h hR _) hR _) hR _) hR _) hR _) hR _) hR _) hR _) hR _) hR _) hR _) hR _) hR _)
theorem other13 {q:Nat} (hq:¬ R=q) (v0 v1 v2 v3 v4 v5 v6 v7 v8 v9 v10 v11 v12:Value):(ch13 w R v0 v1 v2 v3 v4 v5 v6 v7 v8 v9 v10 v11 v12).heap[q]? = w.heap[q]?:=by
 simp [World.setCell,Array.getElem?_modify,hq]
theorem cells13 (h:BoxA w R ty #[u0,u1,u2,u3,u4,u5,u6,u7,u8,u9,u10,u11,u12]):w.cell? ⟨R,0,none⟩=some u0∧w.cell? ⟨R,1,none⟩=some u1∧w.cell? ⟨R,2,none⟩=some u2∧w.cell? ⟨R,3,none⟩=some u3∧w.cell? ⟨R,4,none⟩=some u4∧w.cell? ⟨R,5,none⟩=some u5∧w.cell? ⟨R,6,none⟩=some u6∧w.cell? ⟨R,7,none⟩=some u7∧w.cell? ⟨R,8,none⟩=some u8∧w.cell? ⟨R,9,none⟩=some u9∧w.cell? ⟨R,10,none⟩=some u10∧w.cell? ⟨R,11,none⟩=some u11∧w.cell? ⟨R,12,none⟩=some u12:=⟨h.cell 0 rfl,h.cell 1 rfl,h.cell 2 rfl,h.cell 3 rfl,h.cell 4 rfl,h.cell 5 rfl,h.cell 6 rfl,h.cell 7 rfl,h.cell 8 rfl,h.cell 9 rfl,h.cell 10 rfl,h.cell 11 rfl,h.cell 12 rfl⟩
theorem frozen13 {xs:Array Value} (h:BoxA w R ty xs):w.frozen? ⟨R,0,none⟩=false∧w.frozen? ⟨R,1,none⟩=false∧w.frozen? ⟨R,2,none⟩=false∧w.frozen? ⟨R,3,none⟩=false∧w.frozen? ⟨R,4,none⟩=false∧w.frozen? ⟨R,5,none⟩=false∧w.frozen? ⟨R,6,none⟩=false∧w.frozen? ⟨R,7,none⟩=false∧w.frozen? ⟨R,8,none⟩=false∧w.frozen? ⟨R,9,none⟩=false∧w.frozen? ⟨R,10,none⟩=false∧w.frozen? ⟨R,11,none⟩=false∧w.frozen? ⟨R,12,none⟩=false:=⟨h.frozen 0,h.frozen 1,h.frozen 2,h.frozen 3,h.frozen 4,h.frozen 5,h.frozen 6,h.frozen 7,h.frozen 8,h.frozen 9,h.frozen 10,h.frozen 11,h.frozen 12⟩
theorem put13 {a:World} (h:BoxA w R ty #[u0,u1,u2,u3,u4,u5,u6,u7,u8,u9,u10,u11,u12]) (k:Below C a w) (hR:C≤R) (v0 v1 v2 v3 v4 v5 v6 v7 v8 v9 v10 v11 v12:Value):∃ wz,ch13 w R v0 v1 v2 v3 v4 v5 v6 v7 v8 v9 v10 v11 v12=wz∧BoxA wz R ty #[v0,v1,v2,v3,v4,v5,v6,v7,v8,v9,v10,v11,v12]∧Below C a wz∧wz.heap.size=w.heap.size:=⟨_,rfl,set13 h v0 v1 v2 v3 v4 v5 v6 v7 v8 v9 v10 v11 v12,below13 k hR v0 v1 v2 v3 v4 v5 v6 v7 v8 v9 v10 v11 v12,by simp [World.setCell]⟩
theorem zero_bnd (w:World):(zeroValue 49).run Tryz.prog w=.ok (.agg bnd0) w:=by kernel_rfl
theorem at13 {l:List EntS} (h:∀ p∈l,Is13 p.2) (x:ByteArray):Is13 (atS (.agg bnd0) x l):=by
 induction l with
 | nil=>exact ⟨bv0,rfl⟩
 | cons p l ih=>
  rw [atS];by_cases hp:p.1=x
  · rw [if_pos hp];exact h p (by simp)
  · rw [if_neg hp];exact ih (fun q hq=>h q (by simp [hq]))
theorem get_nil (x:ByteArray) (w:World):(Instr.lookup 72 (.map none) (.string x) true).run Tryz.prog w=.ok (.tuple #[.agg bnd0,.bool false]) w:=by
 have hc:(Instr.checkKey true 10000 9 (.string x)).run Tryz.prog w=.ok () w:=MapKept.run_checkKey (k:=.string x) Tryz.underlying9 (by simp [MapKept.IsKey]) _ 9999;simp [Instr.lookup,run_underlying Tryz.underlying72,hc,MapKept.run_findKey (k:=.string x) (l:=[]) (a:=none) Tryz.underlying9 rfl,zero_bnd w,Result.andThen]
theorem del_nil (x:ByteArray) (ty:TypeId) (w:World):(Builtin.delete_ #[72,9] ty #[.map none,.string x]).run Tryz.prog w=.ok (.tuple #[]) w:=by
 have hc:(Instr.checkKey true 10000 9 (.string x)).run Tryz.prog w=.ok () w:=MapKept.run_checkKey (k:=.string x) Tryz.underlying9 (by simp [MapKept.IsKey]) _ 9999;simp [Builtin.delete_,run_underlying Tryz.underlying72,hc,Result.andThen]
def FrM (w:World) (mb:Option Nat) (l:List EntS):Prop:=(mb=none∧l=[])∨∃ B,mb=some B∧MapS w B l
theorem FrM.below {l:List EntS} (h:FrM w mb l) (k:Below w.heap.size w w'):FrM w' mb l:=by
 rcases h with h | ⟨B,h1,h2⟩
 · exact Or.inl h
 · exact Or.inr ⟨B,h1,h2.below k h2.lt⟩
theorem FrM.get {l:List EntS} (h:FrM w mb l) (x:ByteArray):(Instr.lookup 72 (.map mb) (.string x) true).run Tryz.prog w=.ok (.tuple #[atS (.agg bnd0) x l,.bool (hasS x l)]) w:=by
 rcases h with ⟨rfl,rfl⟩ | ⟨B,rfl,h2⟩
 · exact get_nil x w
 · exact h2.get Tryz.underlying72 Tryz.underlying9 (zero_bnd w)
attribute [local go_sem] Oper.semAt_some
section
variable {D:Nat→Prop} {w:World} {f:Nat} {k ln:Int} {x1 x2:Option Addr} {y1 y2:Nat} {t:Tr} {s1 s2 s3 s4:ByteArray} {b1 b2 b3 b4:Option Addr} {z1 z2 z3 z4:Nat} {l1 l2 l4:List ByteArray} {l3:List Int} {br:Bool}
theorem copyB_any (hA0:ArV (f+1) D w (.slice x1 t.ns.length y1) (.slice x2 t.kids.length y2) t) (hL0:Lists4 D w b1 b2 b3 b4 z1 z2 z3 z4 l1 l2 l3 l4) (hD:∀ g,D g→g<w.heap.size) (g1:l1.length≤8796093022208) (g2:l2.length≤8796093022208) (g3:l3.length≤17592186044416) (g4:l4.length≤8796093022208) :
    Calls Tryz.prog 79 #[.agg #[.int .i64 k,.slice x1 t.ns.length y1,.slice x2 t.kids.length y2,.string s1,.string s2,.string s3,.string s4,.slice b1 l1.length z1,.slice b2 l2.length z2,.slice b3 l3.length z3,.slice b4 l4.length z4,.bool br,.int .i64 ln]] w fun e w'=>∃ p1 r1 p2 r2 c1 d1 c2 d2 c3 d3 c4 d4,e=.returned (.agg #[.int .i64 k,.slice p1 (cpT t).ns.length r1,.slice p2 (cpT t).kids.length r2,.string s1,.string s2,.string s3,.string s4,.slice c1 l1.length d1,.slice c2 l2.length d2,.slice c3 l3.length d3,.slice c4 l4.length d4,.bool br,.int .i64 ln])∧ArV (f+1) (Fr w.heap.size w'.heap.size) w' (.slice p1 (cpT t).ns.length r1) (.slice p2 (cpT t).kids.length r2) (cpT t)∧Lists4 (Fr w.heap.size w'.heap.size) w' c1 c2 c3 c4 d1 d2 d3 d4 l1 l2 l3 l4∧Below w.heap.size w w':=by
 have e1:=below_alloc w (.cells #[.int .i64 k,.slice x1 t.ns.length y1,.slice x2 t.kids.length y2,.string s1,.string s2,.string s3,.string s4,.slice b1 l1.length z1,.slice b2 l2.length z2,.slice b3 l3.length z3,.slice b4 l4.length z4,.bool br,.int .i64 ln] 49);have B1:=boxA_new w #[.int .i64 k,.slice x1 t.ns.length y1,.slice x2 t.kids.length y2,.string s1,.string s2,.string s3,.string s4,.slice b1 l1.length z1,.slice b2 l2.length z2,.slice b3 l3.length z3,.slice b4 l4.length z4,.bool br,.int .i64 ln] 49;have e2:=below_alloc (w.alloc (.cells #[.int .i64 k,.slice x1 t.ns.length y1,.slice x2 t.kids.length y2,.string s1,.string s2,.string s3,.string s4,.slice b1 l1.length z1,.slice b2 l2.length z2,.slice b3 l3.length z3,.slice b4 l4.length z4,.bool br,.int .i64 ln] 49)) (.cells bnd0 49);have B2:=boxA_new (w.alloc (.cells #[.int .i64 k,.slice x1 t.ns.length y1,.slice x2 t.kids.length y2,.string s1,.string s2,.string s3,.string s4,.slice b1 l1.length z1,.slice b2 l2.length z2,.slice b3 l3.length z3,.slice b4 l4.length z4,.bool br,.int .i64 ln] 49)) bnd0 49;have B1':=B1.below e2 (by simp);have kw:=e1.trans (e2.mono e1.size);have hs0:((w.alloc (.cells #[.int .i64 k,.slice x1 t.ns.length y1,.slice x2 t.kids.length y2,.string s1,.string s2,.string s3,.string s4,.slice b1 l1.length z1,.slice b2 l2.length z2,.slice b3 l3.length z3,.slice b4 l4.length z4,.bool br,.int .i64 ln] 49)).alloc (.cells bnd0 49)).heap.size=w.heap.size+2:=by simp
 rw [World.size_alloc] at B2;go_enter Tryz.func79,Tryz.ntmps79
 go_upto_region 1 with fail
 obtain ⟨v0,hv0⟩:∃ v0,(w.alloc (.cells #[.int .i64 k,.slice x1 t.ns.length y1,.slice x2 t.kids.length y2,.string s1,.string s2,.string s3,.string s4,.slice b1 l1.length z1,.slice b2 l2.length z2,.slice b3 l3.length z3,.slice b4 l4.length z4,.bool br,.int .i64 ln] 49)).alloc (.cells bnd0 49)=v0:=⟨_,rfl⟩;rw [hv0] at B1' B2 kw hs0 ⊢;clear hv0 e1 e2 B1;refine wp_region_noPanic ?_;obtain ⟨v,hv⟩:∃ v,v0.drew=v:=⟨_,rfl⟩;have HB:Hid (BoxA v w.heap.size 49 #[.int .i64 k,.slice x1 t.ns.length y1,.slice x2 t.kids.length y2,.string s1,.string s2,.string s3,.string s4,.slice b1 l1.length z1,.slice b2 l2.length z2,.slice b3 l3.length z3,.slice b4 l4.length z4,.bool br,.int .i64 ln]):=by subst hv;exact B1'
 have HB2:Hid (BoxA v (w.heap.size+1) 49 bnd0):=by subst hv;exact B2
 have HS:Hid (v.heap.size=w.heap.size+2):=by subst hv;exact hs0
 have HK:Hid (Below w.heap.size w v):=by subst hv;exact kw.drew
 have k0:Below (w.heap.size+2) v v:=Below.refl _ _;have ag:∀ V,Below (w.heap.size+2) v V→Agree D w V:=fun V hV g hg=>(hV.block g (by have:=hD g hg;omega)).trans (HK.out.block g (hD g hg));have HA:Hid (∀ V,Below (w.heap.size+2) v V→ArV (f+1) D V (.slice x1 t.ns.length y1) (.slice x2 t.kids.length y2) t):=fun V hV=>hA0.agree (ag V hV);have HL:Hid (∀ V,Below (w.heap.size+2) v V→Lists4 D V b1 b2 b3 b4 z1 z2 z3 z4 l1 l2 l3 l4):=fun V hV=>⟨hL0.1.imp (fun _ h=>h) (ag V hV),hL0.2.1.imp (fun _ h=>h) (ag V hV),hL0.2.2.1.imp (fun _ h=>h) (ag V hV),hL0.2.2.2.imp (fun _ h=>h) (ag V hV)⟩;have HE:Hid (∀ V,Below (w.heap.size+2) v V→∀ g,D g→g<V.heap.size):=fun V hV g hg=>by have:=hD g hg;have:=hV.size;have:=HS.out;omega
 have HC:Hid (∀ V,Below (w.heap.size+2) v V→(fun V=>V.cell? ⟨w.heap.size,0,none⟩=some (.int .i64 k)∧V.cell? ⟨w.heap.size,1,none⟩=some (.slice x1 t.ns.length y1)∧V.cell? ⟨w.heap.size,2,none⟩=some (.slice x2 t.kids.length y2)∧V.cell? ⟨w.heap.size,3,none⟩=some (.string s1)∧V.cell? ⟨w.heap.size,4,none⟩=some (.string s2)∧V.cell? ⟨w.heap.size,5,none⟩=some (.string s3)∧V.cell? ⟨w.heap.size,6,none⟩=some (.string s4)∧V.cell? ⟨w.heap.size,7,none⟩=some (.slice b1 l1.length z1)∧V.cell? ⟨w.heap.size,8,none⟩=some (.slice b2 l2.length z2)∧V.cell? ⟨w.heap.size,9,none⟩=some (.slice b3 l3.length z3)∧V.cell? ⟨w.heap.size,10,none⟩=some (.slice b4 l4.length z4)∧V.cell? ⟨w.heap.size,11,none⟩=some (.bool br)∧V.cell? ⟨w.heap.size,12,none⟩=some (.int .i64 ln)) V):=fun V hV=>cells13 (HB.out.below hV (by omega));clear B1' B2 kw hs0 hA0 hL0 hD ag;refine wp_region_held_drew (S:=(fun V=>V.cell? ⟨w.heap.size,0,none⟩=some (.int .i64 k)∧V.cell? ⟨w.heap.size,1,none⟩=some (.slice x1 t.ns.length y1)∧V.cell? ⟨w.heap.size,2,none⟩=some (.slice x2 t.kids.length y2)∧V.cell? ⟨w.heap.size,3,none⟩=some (.string s1)∧V.cell? ⟨w.heap.size,4,none⟩=some (.string s2)∧V.cell? ⟨w.heap.size,5,none⟩=some (.string s3)∧V.cell? ⟨w.heap.size,6,none⟩=some (.string s4)∧V.cell? ⟨w.heap.size,7,none⟩=some (.slice b1 l1.length z1)∧V.cell? ⟨w.heap.size,8,none⟩=some (.slice b2 l2.length z2)∧V.cell? ⟨w.heap.size,9,none⟩=some (.slice b3 l3.length z3)∧V.cell? ⟨w.heap.size,10,none⟩=some (.slice b4 l4.length z4)∧V.cell? ⟨w.heap.size,11,none⟩=some (.bool br)∧V.cell? ⟨w.heap.size,12,none⟩=some (.int .i64 ln))) (by kernel_rfl) (by rw [hv];exact HC.out v k0) (fun hS => ?_);rw [hv] at hS ⊢;clear hv;refine wpAnyH_take (i:=0) (v:=.pointer (some ⟨w.heap.size,0,none⟩)) rfl (by kernel_rfl) (by kernel_rfl) (by kernel_rfl) (fun _ _ _ h=>h) (Or.inl ⟨by rfl,(by intro w hSw;(try dsimp only at hSw);go_simp)⟩) (by assumption) ?_;simp only [Act.put,List.setIfInBounds_toArray,List.set_cons_zero,List.set_cons_succ];refine wpAnyH_take (i:=1) (v:=.int .i64 k) rfl (by kernel_rfl) (by kernel_rfl) (by kernel_rfl) (fun _ _ _ h=>h) (Or.inl ⟨by rfl,(by intro w hSw;(try dsimp only at hSw);go_simp)⟩) (by assumption) ?_;simp only [Act.put,List.setIfInBounds_toArray,List.set_cons_zero,List.set_cons_succ];refine wpAnyH_take (i:=2) (v:=.pointer (some ⟨w.heap.size,1,none⟩)) rfl (by kernel_rfl) (by kernel_rfl) (by kernel_rfl) (fun _ _ _ h=>h) (Or.inl ⟨by rfl,(by intro w hSw;(try dsimp only at hSw);go_simp)⟩) (by assumption) ?_;simp only [Act.put,List.setIfInBounds_toArray,List.set_cons_zero,List.set_cons_succ];refine wpAnyH_take (i:=3) (v:=.agg #[.slice x1 t.ns.length y1,.slice x2 t.kids.length y2]) rfl (by kernel_rfl) (by kernel_rfl) (by kernel_rfl) (fun _ _ _ h=>h) (Or.inl ⟨by rfl,(by intro w hSw;(try dsimp only at hSw);go_simp)⟩) (by assumption) ?_;simp only [Act.put,List.setIfInBounds_toArray,List.set_cons_zero,List.set_cons_succ];refine wpAnyH_take (i:=5) (v:=.pointer (some ⟨w.heap.size,3,none⟩)) rfl (by kernel_rfl) (by kernel_rfl) (by kernel_rfl) (fun _ _ _ h=>h) (Or.inl ⟨by rfl,(by intro w hSw;(try dsimp only at hSw);go_simp)⟩) (by assumption) ?_;simp only [Act.put,List.setIfInBounds_toArray,List.set_cons_zero,List.set_cons_succ];refine wpAnyH_take (i:=6) (v:=.agg #[.string s1,.string s2,.string s3,.string s4,.slice b1 l1.length z1,.slice b2 l2.length z2,.slice b3 l3.length z3,.slice b4 l4.length z4,.bool br]) rfl (by kernel_rfl) (by kernel_rfl) (by kernel_rfl) (fun _ _ _ h=>h) (Or.inl ⟨by rfl,(by intro w hSw;(try dsimp only at hSw);go_simp)⟩) (by assumption) ?_;simp only [Act.put,List.setIfInBounds_toArray,List.set_cons_zero,List.set_cons_succ];refine wpAnyH_take (i:=8) (v:=.pointer (some ⟨w.heap.size,12,none⟩)) rfl (by kernel_rfl) (by kernel_rfl) (by kernel_rfl) (fun _ _ _ h=>h) (Or.inl ⟨by rfl,(by intro w hSw;(try dsimp only at hSw);go_simp)⟩) (by assumption) ?_;simp only [Act.put,List.setIfInBounds_toArray,List.set_cons_zero,List.set_cons_succ]
 refine wpAnyH_take (i:=9) (v:=.int .i64 ln) rfl (by kernel_rfl) (by kernel_rfl) (by kernel_rfl) (fun _ _ _ h=>h) (Or.inl ⟨by rfl,(by intro w hSw;(try dsimp only at hSw);go_simp)⟩) (by assumption) ?_;simp only [Act.put,List.setIfInBounds_toArray,List.set_cons_zero,List.set_cons_succ];refine wpAnyH_ready (rs:=[4]) (by kernel_rfl) (by simp) ?_;refine AllReadyH.cons rfl (fun K hK => ?_) AllReadyH.nil;go_simp
 refine (copy3_any (HA.out v k0) (HE.out v k0)).mono ?_;rintro e w1 ⟨p1,r1,p2,r2,rfl,o1,q1⟩;have k1:Below (w.heap.size+2) v w1:=k0.trans (q1.mono (Nat.le_of_eq HS.out.symm));have j1:=HC.out w1 k1;have O1:Hid (ArV (f+1) (Fr v.heap.size w1.heap.size) w1 (.slice p1 (cpT t).ns.length r1) (.slice p2 (cpT t).kids.length r2) (cpT t)):=o1;clear o1;go_simp
 refine hK.out _ _ (j1) (fun _ => ?_);clear hK K;refine wpAnyH_ready (rs:=[7]) (by kernel_rfl) (by simp) ?_;refine AllReadyH.cons rfl (fun K hK => ?_) AllReadyH.nil;go_simp
 refine (copyFn_any (HL.out w1 k1) (HE.out w1 k1) g1 g2 g3 g4).mono ?_;rintro e w2 ⟨c1,d1,c2,d2,c3,d3,c4,d4,rfl,o2,q2⟩;have k2:Below (w.heap.size+2) v w2:=k1.trans (q2.mono (by have:=HS.out;have:=k1.size;omega));have j2:=HC.out w2 k2;have O2:Hid (Lists4 (Fr w1.heap.size w2.heap.size) w2 c1 c2 c3 c4 d1 d2 d3 d4 l1 l2 l3 l4):=o2;clear o2;have BR:=HB2.out.below k2 (by omega);obtain ⟨x0,xx1,xx2,x3,x4,x5,x6,x7,x8,x9,x10,x11,x12⟩:=cells13 BR;obtain ⟨h0,h1,h2,h3,h4,h5,h6,h7,h8,h9,h10,h11,h12⟩:=frozen13 BR;have hsz:=Nat.le_trans (Nat.le_of_eq HS.out.symm) k2.size;have JE:Hid ((fun V=>V.cell? ⟨w.heap.size,0,none⟩=some (.int .i64 k)∧V.cell? ⟨w.heap.size,1,none⟩=some (.slice x1 t.ns.length y1)∧V.cell? ⟨w.heap.size,2,none⟩=some (.slice x2 t.kids.length y2)∧V.cell? ⟨w.heap.size,3,none⟩=some (.string s1)∧V.cell? ⟨w.heap.size,4,none⟩=some (.string s2)∧V.cell? ⟨w.heap.size,5,none⟩=some (.string s3)∧V.cell? ⟨w.heap.size,6,none⟩=some (.string s4)∧V.cell? ⟨w.heap.size,7,none⟩=some (.slice b1 l1.length z1)∧V.cell? ⟨w.heap.size,8,none⟩=some (.slice b2 l2.length z2)∧V.cell? ⟨w.heap.size,9,none⟩=some (.slice b3 l3.length z3)∧V.cell? ⟨w.heap.size,10,none⟩=some (.slice b4 l4.length z4)∧V.cell? ⟨w.heap.size,11,none⟩=some (.bool br)∧V.cell? ⟨w.heap.size,12,none⟩=some (.int .i64 ln)) (ch13 w2 (w.heap.size+1) (.int .i64 k) (.slice p1 (cpT t).ns.length r1) (.slice p2 (cpT t).kids.length r2) (.string s1) (.string s2) (.string s3) (.string s4) (.slice c1 l1.length d1) (.slice c2 l2.length d2) (.slice c3 l3.length d3) (.slice c4 l4.length d4) (.bool br) (.int .i64 ln))):=by
  have hb:=HB.out.below k2 (by omega);have hb2:BoxA (ch13 w2 (w.heap.size+1) (.int .i64 k) (.slice p1 (cpT t).ns.length r1) (.slice p2 (cpT t).kids.length r2) (.string s1) (.string s2) (.string s3) (.string s4) (.slice c1 l1.length d1) (.slice c2 l2.length d2) (.slice c3 l3.length d3) (.slice c4 l4.length d4) (.bool br) (.int .i64 ln)) w.heap.size 49 #[.int .i64 k,.slice x1 t.ns.length y1,.slice x2 t.kids.length y2,.string s1,.string s2,.string s3,.string s4,.slice b1 l1.length z1,.slice b2 l2.length z2,.slice b3 l3.length z3,.slice b4 l4.length z4,.bool br,.int .i64 ln]:=by
   unfold BoxA at hb ⊢;rw [other13 (by omega)];exact hb
  exact cells13 hb2
 clear hsz;go_simp
 refine hK.out _ _ (j2) (fun _ => ?_);clear hK K;refine wpAnyH_take (i:=10) (v:=.agg #[.int .i64 k,.slice p1 (cpT t).ns.length r1,.slice p2 (cpT t).kids.length r2,.string s1,.string s2,.string s3,.string s4,.slice c1 l1.length d1,.slice c2 l2.length d2,.slice c3 l3.length d3,.slice c4 l4.length d4,.bool br,.int .i64 ln]) rfl (by kernel_rfl) (by kernel_rfl) (by kernel_rfl) (fun _ _ _ h=>h) (Or.inl ⟨by rfl,(by intro w hSw;(try dsimp only at hSw);go_simp)⟩) (by assumption) ?_;simp only [Act.put,List.setIfInBounds_toArray,List.set_cons_zero,List.set_cons_succ];refine wpAnyH_ready (rs:=[11]) (by kernel_rfl) (by simp) ?_;refine AllReadyH.cons rfl (fun K hK => ?_) AllReadyH.nil;go_simp
 go_simp
 refine hK.out _ _ (JE.out) (fun _ => ?_);clear hK K;refine wpAnyH_done (by kernel_rfl) ?_ _;have Z:=set13 BR (.int .i64 k) (.slice p1 (cpT t).ns.length r1) (.slice p2 (cpT t).kids.length r2) (.string s1) (.string s2) (.string s3) (.string s4) (.slice c1 l1.length d1) (.slice c2 l2.length d2) (.slice c3 l3.length d3) (.slice c4 l4.length d4) (.bool br) (.int .i64 ln);have KZ:=below13 (R:=w.heap.size+1) (HK.out.trans (k2.mono (by omega))) (by omega) (.int .i64 k) (.slice p1 (cpT t).ns.length r1) (.slice p2 (cpT t).kids.length r2) (.string s1) (.string s2) (.string s3) (.string s4) (.slice c1 l1.length d1) (.slice c2 l2.length d2) (.slice c3 l3.length d3) (.slice c4 l4.length d4) (.bool br) (.int .i64 ln);have AZ:(ch13 w2 (w.heap.size+1) (.int .i64 k) (.slice p1 (cpT t).ns.length r1) (.slice p2 (cpT t).kids.length r2) (.string s1) (.string s2) (.string s3) (.string s4) (.slice c1 l1.length d1) (.slice c2 l2.length d2) (.slice c3 l3.length d3) (.slice c4 l4.length d4) (.bool br) (.int .i64 ln)).heap.size=w2.heap.size∧∀ g,w.heap.size+1<g→(ch13 w2 (w.heap.size+1) (.int .i64 k) (.slice p1 (cpT t).ns.length r1) (.slice p2 (cpT t).kids.length r2) (.string s1) (.string s2) (.string s3) (.string s4) (.slice c1 l1.length d1) (.slice c2 l2.length d2) (.slice c3 l3.length d3) (.slice c4 l4.length d4) (.bool br) (.int .i64 ln)).heap[g]? = w2.heap[g]?:=⟨by simp [World.setCell],fun g hg=>other13 (by omega) _ _ _ _ _ _ _ _ _ _ _ _ _⟩;obtain ⟨w6,hw6⟩:∃ w6,ch13 w2 (w.heap.size+1) (.int .i64 k) (.slice p1 (cpT t).ns.length r1) (.slice p2 (cpT t).kids.length r2) (.string s1) (.string s2) (.string s3) (.string s4) (.slice c1 l1.length d1) (.slice c2 l2.length d2) (.slice c3 l3.length d3) (.slice c4 l4.length d4) (.bool br) (.int .i64 ln)=w6:=⟨_,rfl⟩;rw [hw6] at Z KZ AZ;dsimp only [ch13] at hw6;rw [hw6];have HKZ:Hid (Below w.heap.size w w6):=KZ;have HO:Hid (ArV (f+1) (Fr w.heap.size w6.heap.size) w6 (.slice p1 (cpT t).ns.length r1) (.slice p2 (cpT t).kids.length r2) (cpT t)∧Lists4 (Fr w.heap.size w6.heap.size) w6 c1 c2 c3 c4 d1 d2 d3 d4 l1 l2 l3 l4):=by
  have s0:=HS.out;have t1:=q1.size;have t2:=q2.size;obtain ⟨a1,a2⟩:=AZ;have m1:∀ g,Fr v.heap.size w1.heap.size g→Fr w.heap.size w6.heap.size g:=fun g hg=>⟨by have:=hg.1;omega,by have:=hg.2;omega⟩;have m2:∀ g,Fr w1.heap.size w2.heap.size g→Fr w.heap.size w6.heap.size g:=fun g hg=>⟨by have:=hg.1;omega,by have:=hg.2;omega⟩;have A1:Agree (Fr v.heap.size w1.heap.size) w1 w6:=fun g hg=>by
   have:=hg.1;have:=hg.2;rw [a2 g (by omega),q2.block g (by omega)]
  have A2:Agree (Fr w1.heap.size w2.heap.size) w2 w6:=fun g hg=>by
   have:=hg.1;have:=hg.2;rw [a2 g (by omega)]
  exact ⟨ArV.imp m1 A1 _ _ _ _ _ (Nat.le_refl _) O1.out,O2.out.1.imp m2 A2,O2.out.2.1.imp m2 A2,O2.out.2.2.1.imp m2 A2,O2.out.2.2.2.imp m2 A2⟩
 clear KZ AZ O1 O2 q1 q2 k0 k1 k2 j1 j2 HA HL HE HC HB HB2 HS HK hS JE;dsimp only [NoPanic];clear hw6;go_wp2
 obtain ⟨e0,e1,e2,e3,e4,e5,e6,e7,e8,e9,e10,e11,e12⟩:=cells13 Z;refine bodyPost_ret (v:=.agg #[.int .i64 k,.slice p1 (cpT t).ns.length r1,.slice p2 (cpT t).kids.length r2,.string s1,.string s2,.string s3,.string s4,.slice c1 l1.length d1,.slice c2 l2.length d2,.slice c3 l3.length d3,.slice c4 l4.length d4,.bool br,.int .i64 ln]) ?_ rfl ⟨p1,r1,p2,r2,c1,d1,c2,d2,c3,d3,c4,d4,rfl,HO.out.1,HO.out.2,HKZ.out⟩;simp [results,Tryz.results79,go_sem,e0,e1,e2,e3,e4,e5,e6,e7,e8,e9,e10,e11,e12]
end
end
section
open Go.RowKit
structure Bd where
 k:Int
 t:Tr
 s1:ByteArray
 s2:ByteArray
 s3:ByteArray
 s4:ByteArray
 l1:List ByteArray
 l2:List ByteArray
 l3:List Int
 l4:List ByteArray
 br:Bool
 ln:Int
def bd0:Bd:=⟨0,tr0,⟨#[]⟩,⟨#[]⟩,⟨#[]⟩,⟨#[]⟩,[],[],[],[],false,0⟩
noncomputable def cpB (b:Bd):Bd:={ b with t:=cpT b.t }
def shortB (b:Bd):Prop:=b.l1.length≤8796093022208∧b.l2.length≤8796093022208∧b.l3.length≤17592186044416∧b.l4.length≤8796093022208
structure BndIs (f:Nat) (D:Nat→Prop) (w:World) (x:BV) (b:Bd):Prop where
 form:∃ x1 y1 x2 y2 b1 z1 b2 z2 b3 z3 b4 z4,x=⟨b.k,x1,b.t.ns.length,y1,x2,b.t.kids.length,y2,b.s1,b.s2,b.s3,b.s4,b1,b.l1.length,z1,b2,b.l2.length,z2,b3,b.l3.length,z3,b4,b.l4.length,z4,b.br,b.ln⟩ ∧
  ArV (f+1) D w (.slice x1 b.t.ns.length y1) (.slice x2 b.t.kids.length y2) b.t∧Lists4 D w b1 b2 b3 b4 z1 z2 z3 z4 b.l1 b.l2 b.l3 b.l4
 short:shortB b
theorem Lists4.imp {b1 b2 b3 b4:Option Addr} {z1 z2 z3 z4:Nat} {l1 l2:List ByteArray} {l3:List Int} {l4:List ByteArray} (h:Lists4 D w b1 b2 b3 b4 z1 z2 z3 z4 l1 l2 l3 l4) (hD:∀ g,D g→D' g) (ag:Agree D w w'):Lists4 D' w' b1 b2 b3 b4 z1 z2 z3 z4 l1 l2 l3 l4:=⟨h.1.imp hD ag,h.2.1.imp hD ag,h.2.2.1.imp hD ag,h.2.2.2.imp hD ag⟩
theorem BndIs.imp {x:BV} {b:Bd} (h:BndIs f D w x b) (hD:∀ g,D g→D' g) (ag:Agree D w w'):BndIs f D' w' x b:=by
 obtain ⟨⟨x1,y1,x2,y2,b1,z1,b2,z2,b3,z3,b4,z4,rfl,h1,h2⟩,hs⟩:=h;exact ⟨⟨x1,y1,x2,y2,b1,z1,b2,z2,b3,z3,b4,z4,rfl,ArV.imp hD ag _ _ _ _ _ (Nat.le_refl _) h1,h2.imp hD ag⟩,hs⟩
theorem rdT_nil (D:Nat→Prop) (w:World):RdT D w (.slice none 0 0) []:=⟨none,0,rfl,Nat.le_refl _,by omega,fun _=>rfl,Or.inl rfl⟩
theorem rdN_nil (D:Nat→Prop) (w:World):RdN D w (.slice none 0 0) []:=⟨by simp,none,0,rfl,Nat.le_refl _,by omega,fun _=>rfl,Or.inl rfl⟩
theorem lists4_nil (D:Nat→Prop) (w:World):Lists4 D w none none none none 0 0 0 0 [] [] [] []:=⟨rdT_nil D w,rdT_nil D w,rdN_nil D w,rdT_nil D w⟩
theorem bndIs_zero (f:Nat) (D:Nat→Prop) (w:World):BndIs f D w bv0 bd0:=⟨⟨none,0,none,0,none,0,none,0,none,0,none,0,rfl,arV_zero f D w,lists4_nil D w⟩,by simp [shortB,bd0]⟩
theorem copyBnd {x:BV} {b:Bd} (h:BndIs f D w x b) (hD:∀ g,D g→g<w.heap.size) :
    Calls Tryz.prog 79 #[.agg x.cells] w fun e w'=>∃ y:BV,e=.returned (.agg y.cells)∧BndIs f (Fr w.heap.size w'.heap.size) w' y (cpB b)∧Below w.heap.size w w':=by
 obtain ⟨⟨x1,y1,x2,y2,b1,z1,b2,z2,b3,z3,b4,z4,rfl,h1,h2⟩,hs⟩:=h;refine (copyB_any h1 h2 hD hs.1 hs.2.1 hs.2.2.1 hs.2.2.2).mono ?_;rintro e w' ⟨p1,r1,p2,r2,c1,d1,c2,d2,c3,d3,c4,d4,rfl,h3,h4,h5⟩;exact ⟨⟨b.k,p1,(cpT b.t).ns.length,r1,p2,(cpT b.t).kids.length,r2,b.s1,b.s2,b.s3,b.s4,c1,b.l1.length,d1,c2,b.l2.length,d2,c3,b.l3.length,d3,c4,b.l4.length,d4,b.br,b.ln⟩,rfl,⟨⟨p1,r1,p2,r2,c1,d1,c2,d2,c3,d3,c4,d4,rfl,h3,h4⟩,hs⟩,h5⟩
abbrev EntB:=ByteArray×Bd
def getB (x:ByteArray):List EntB→Bd
 | []=>bd0
 | p :: l=>if p.1=x then p.2 else getB x l
def hasB (x:ByteArray):List EntB→Bool
 | []=>false
 | p :: l=>if p.1=x then true else hasB x l
def putB (x:ByteArray) (b:Bd):List EntB→List EntB
 | []=>[(x,b)]
 | p :: l=>if p.1=x then (x,b) :: l else p :: putB x b l
def delB (x:ByteArray):List EntB→List EntB
 | []=>[]
 | p :: l=>if p.1=x then l else p :: delB x l
def EntsIs (f:Nat) (D:Nat→Prop) (w:World):List EntS→List EntB→Prop
 | [],[]=>True
 | p :: l,q :: L=>p.1=q.1∧(∃ x:BV,p.2=.agg x.cells∧BndIs f D w x q.2)∧EntsIs f D w l L
 | _,_=>False
theorem EntsIs.imp (hD:∀ g,D g→D' g) (ag:Agree D w w'):∀ {l:List EntS} {L:List EntB},EntsIs f D w l L→EntsIs f D' w' l L
 | [],[],_=>trivial
 | [],_ :: _,h=>h.elim
 | _ :: _,[],h=>h.elim
 | _ :: _,_ :: _,⟨h1,⟨x,h2,h3⟩,h4⟩=>⟨h1,⟨x,h2,h3.imp hD ag⟩,EntsIs.imp hD ag h4⟩
section
variable {f:Nat} {D:Nat→Prop} {w:World}
theorem EntsIs.at13:∀ {l:List EntS} {L:List EntB},EntsIs f D w l L→∀ p∈l,Is13 p.2
 | [],[],_=>by simp
 | [],_ :: _,h=>h.elim
 | _ :: _,[],h=>h.elim
 | p :: l,q :: L,⟨_,⟨x,h2,_⟩,h4⟩=>fun r hr=>by
  rcases List.mem_cons.1 hr with rfl | hr
  · exact ⟨x,h2⟩
  · exact EntsIs.at13 h4 r hr
theorem EntsIs.len:∀ {l:List EntS} {L:List EntB},EntsIs f D w l L→l.length=L.length
 | [],[],_=>rfl
 | [],_ :: _,h=>h.elim
 | _ :: _,[],h=>h.elim
 | _ :: _,_ :: _,⟨_,_,h4⟩=>by simp [EntsIs.len h4]
theorem EntsIs.get (x:ByteArray):∀ {l:List EntS} {L:List EntB},EntsIs f D w l L→hasS x l=hasB x L∧∃ v:BV,atS (.agg bnd0) x l=.agg v.cells∧BndIs f D w v (getB x L)
 | [],[],_=>⟨rfl,bv0,rfl,bndIs_zero f D w⟩
 | [],_ :: _,h=>h.elim
 | _ :: _,[],h=>h.elim
 | p :: l,q :: L,⟨h1,⟨v,h2,h3⟩,h4⟩=>by
  rw [hasS,hasB,atS,getB,← h1];by_cases e:p.1=x
  · rw [if_pos e,if_pos e,if_pos e,if_pos e]
    exact ⟨rfl,v,h2,h3⟩
  · rw [if_neg e,if_neg e,if_neg e,if_neg e]
    exact EntsIs.get x h4
theorem EntsIs.put (x:ByteArray) {v:BV} {b:Bd} (hv:BndIs f D w v b):∀ {l:List EntS} {L:List EntB},EntsIs f D w l L→EntsIs f D w (putS x (.agg v.cells) l) (putB x b L)
 | [],[],_=>⟨rfl,⟨v,rfl,hv⟩,trivial⟩
 | [],_ :: _,h=>h.elim
 | _ :: _,[],h=>h.elim
 | p :: l,q :: L,⟨h1,h2,h4⟩=>by
  rw [putS,putB,← h1];by_cases e:p.1=x
  · rw [if_pos e,if_pos e]
    exact ⟨rfl,⟨v,rfl,hv⟩,h4⟩
  · rw [if_neg e,if_neg e]
    exact ⟨h1,h2,EntsIs.put x hv h4⟩
theorem EntsIs.del (x:ByteArray):∀ {l:List EntS} {L:List EntB},EntsIs f D w l L→EntsIs f D w (delS x l) (delB x L)
 | [],[],_=>trivial
 | [],_ :: _,h=>h.elim
 | _ :: _,[],h=>h.elim
 | p :: l,q :: L,⟨h1,h2,h4⟩=>by
  rw [delS,delB,← h1];by_cases e:p.1=x
  · rw [if_pos e,if_pos e]
    exact h4
  · rw [if_neg e,if_neg e]
    exact ⟨h1,h2,EntsIs.del x h4⟩
end
theorem frGet_any {l:List EntS} {L:List EntB} (x:ByteArray) (hc:w.cell? ⟨b,o+1,none⟩=some (.map mb)) (hb:b<w.heap.size) (hM:FrM w mb l) (hE:EntsIs f D w l L) (hD:∀ g,D g→g<w.heap.size) :
    Calls Tryz.prog 48 #[.pointer (some ⟨b,o,none⟩),.string x] w fun e w'=>∃ y:BV,e=.returned (.tuple #[.agg y.cells,.bool (hasB x L)])∧BndIs f (Fr w.heap.size w'.heap.size) w' y (cpB (getB x L))∧Below w.heap.size w w':=by
 obtain ⟨hh,q,hq,hB⟩:=hE.get x;have e1:=below_alloc w (.cells bnd0 49);have B1:=boxA_new w bnd0 49;have hc1:=(e1.cell (p:=⟨b,o+1,none⟩) hb).trans hc;have hget:=(hM.below e1).get x;rw [hq,hh] at hget;have e2:=below_alloc (w.alloc (.cells bnd0 49)) (.cells q.cells 49);have B2:=boxA_new (w.alloc (.cells bnd0 49)) q.cells 49;have B1':=B1.below e2 (by simp);have kw:=e1.trans (e2.mono e1.size);have hs0:((w.alloc (.cells bnd0 49)).alloc (.cells q.cells 49)).heap.size=w.heap.size+2:=by simp
 rw [World.size_alloc] at B2;have HB:Hid (BndIs f D w q (getB x L)):=hB;have HD:Hid (∀ g,D g→g<w.heap.size):=hD;generalize hasB x L=H at *;generalize getB x L=G at *;clear hM hE hB hD hq hh;go_enter Tryz.func48,Tryz.ntmps48
 go_wp2_with fail
 refine (copyBnd (w:=(w.alloc (.cells bnd0 49)).alloc (.cells q.cells 49)) (x:=q) (HB.out.imp (fun _ h=>h) (fun g hg=>kw.block g (HD.out g hg))) (fun g hg=>by have:=HD.out g hg;omega)).mono ?_;rintro e w2 ⟨y,rfl,hY,q2⟩;have s2:=q2.size;have R:=B1'.below q2 (by omega);have HY:Hid (BndIs f (Fr ((w.alloc (.cells bnd0 49)).alloc (.cells q.cells 49)).heap.size w2.heap.size) w2 y (cpB G)):=hY;have K2:=kw.trans (q2.mono (by omega));obtain ⟨x0,x1,x2,x3,x4,x5,x6,x7,x8,x9,x10,x11,x12⟩:=cells13 R;obtain ⟨h0,h1,h2,h3,h4,h5,h6,h7,h8,h9,h10,h11,h12⟩:=frozen13 R;have Z:=set13 R (.int .i64 y.k) (.slice y.a1 y.n1 y.y1) (.slice y.a2 y.n2 y.y2) (.string y.s1) (.string y.s2) (.string y.s3) (.string y.s4) (.slice y.b1 y.m1 y.z1) (.slice y.b2 y.m2 y.z2) (.slice y.b3 y.m3 y.z3) (.slice y.b4 y.m4 y.z4) (.bool y.br) (.int .i64 y.ln);have KZ:=below13 (R:=w.heap.size) K2 (Nat.le_refl _) (.int .i64 y.k) (.slice y.a1 y.n1 y.y1) (.slice y.a2 y.n2 y.y2) (.string y.s1) (.string y.s2) (.string y.s3) (.string y.s4) (.slice y.b1 y.m1 y.z1) (.slice y.b2 y.m2 y.z2) (.slice y.b3 y.m3 y.z3) (.slice y.b4 y.m4 y.z4) (.bool y.br) (.int .i64 y.ln);have AZ:(ch13 w2 w.heap.size (.int .i64 y.k) (.slice y.a1 y.n1 y.y1) (.slice y.a2 y.n2 y.y2) (.string y.s1) (.string y.s2) (.string y.s3) (.string y.s4) (.slice y.b1 y.m1 y.z1) (.slice y.b2 y.m2 y.z2) (.slice y.b3 y.m3 y.z3) (.slice y.b4 y.m4 y.z4) (.bool y.br) (.int .i64 y.ln)).heap.size=w2.heap.size∧∀ g,w.heap.size<g→(ch13 w2 w.heap.size (.int .i64 y.k) (.slice y.a1 y.n1 y.y1) (.slice y.a2 y.n2 y.y2) (.string y.s1) (.string y.s2) (.string y.s3) (.string y.s4) (.slice y.b1 y.m1 y.z1) (.slice y.b2 y.m2 y.z2) (.slice y.b3 y.m3 y.z3) (.slice y.b4 y.m4 y.z4) (.bool y.br) (.int .i64 y.ln)).heap[g]? = w2.heap[g]?:=⟨by simp [World.setCell],fun g hg=>other13 (by omega) _ _ _ _ _ _ _ _ _ _ _ _ _⟩;obtain ⟨w6,hw6⟩:∃ w6,ch13 w2 w.heap.size (.int .i64 y.k) (.slice y.a1 y.n1 y.y1) (.slice y.a2 y.n2 y.y2) (.string y.s1) (.string y.s2) (.string y.s3) (.string y.s4) (.slice y.b1 y.m1 y.z1) (.slice y.b2 y.m2 y.z2) (.slice y.b3 y.m3 y.z3) (.slice y.b4 y.m4 y.z4) (.bool y.br) (.int .i64 y.ln)=w6:=⟨_,rfl⟩;rw [hw6] at Z KZ AZ;dsimp only [ch13] at hw6;have HKZ:Hid (Below w.heap.size w w6):=KZ;have HO:Hid (BndIs f (Fr w.heap.size w6.heap.size) w6 y (cpB G)):=by
  obtain ⟨a1,a2⟩:=AZ;refine HY.out.imp (fun g hg=>⟨by have:=hg.1;omega,by have:=hg.2;omega⟩) (fun g hg=>a2 g (by have:=hg.1;omega))
 clear HY hY K2 KZ AZ q2 B1 B2 B1' e1 e2 kw hget hc hc1 HB HD s2 hs0 R;go_wp2
 obtain ⟨e0,e1,e2,e3,e4,e5,e6,e7,e8,e9,e10,e11,e12⟩:=cells13 Z;refine bodyPost_ret (v:=.tuple #[.agg y.cells,.bool H]) ?_ rfl ⟨y,rfl,HO.out,HKZ.out⟩;simp [results,Tryz.results48,go_sem,e0,e1,e2,e3,e4,e5,e6,e7,e8,e9,e10,e11,e12]
attribute [local go_sem] Oper.semAt_some
theorem mkMapN (w:World):(Instr.makeMap 72 none).run Tryz.prog w=.ok (.map (some w.heap.size)) (w.alloc (.map #[] 0)):=by kernel_rfl
theorem eqlSomeN (bm:Nat) (w:World):(binOp .eql 72 (.map (some bm)) (.map none)).run Tryz.prog w=.ok (.bool false) w:=by kernel_rfl
theorem eqlNilN (w:World):(binOp .eql 72 (.map none) (.map none)).run Tryz.prog w=.ok (.bool true) w:=by kernel_rfl
theorem frozen_below (h:Below C w w') (hb:b<C):w'.frozen? ⟨b,o,none⟩=w.frozen? ⟨b,o,none⟩:=by
 simp [World.frozen?,h.block b hb]
theorem BoxA.of_blk {xs:Array Value} (h:BoxA w B ty xs) (e:w'.heap[B]? = w.heap[B]?):BoxA w' B ty xs:=by
 unfold BoxA at h ⊢;rw [e];exact h
theorem frPut_some {q:BV} {G:Bd} {l:List EntS} (x:ByteArray) (hc:w.cell? ⟨b,o+1,none⟩=some (.map (some B))) (hb:b<w.heap.size) (hM:MapS w B l) (hX:BndIs f D w q G) (hD:∀ g,D g→g<w.heap.size) (hbB:b≠B) :
    Calls Tryz.prog 74 #[.pointer (some ⟨b,o,none⟩),.string x,.agg q.cells] w fun e w'=>e=.returned (.tuple #[])∧∃ y:BV,MapS w' B (putS x (.agg y.cells) l)∧BndIs f (Fr w.heap.size w'.heap.size) w' y (cpB G)∧Kp B w w':=by
 have e1:=below_alloc w (.cells q.cells 49);have B1:=boxA_new w q.cells 49;have hc1:=(e1.cell (p:=⟨b,o+1,none⟩) hb).trans hc;have hnil:=eqlSomeN B;go_enter Tryz.func74,Tryz.ntmps74
 go_upto_region 3 with fail
 obtain ⟨v0,hv0⟩:∃ v0,w.alloc (.cells q.cells 49)=v0:=⟨_,rfl⟩;have hs0:v0.heap.size=w.heap.size+1:=by rw [← hv0];simp
 rw [hv0] at e1 B1 hc1;have BB:=B1;have CC:=hc1;have MM:=hM.below e1 hM.lt;have XX:BndIs f D v0 q G:=hX.imp (fun _ h=>h) (fun g hg=>e1.block g (hD g hg));have EE:∀ g,D g→g<v0.heap.size:=fun g hg=>by have:=hD g hg;omega
 have hFB:w.heap.size≠B:=by have:=hM.lt;omega
 have KK:=e1;clear hM hX hD hc1 B1 e1 hc;dsimp only [BV.cells] at hv0;rw [hv0];clear hv0;refine wp_region_noPanic ?_;obtain ⟨v,hv⟩:∃ v,v0.drew=v:=⟨_,rfl⟩;have HB:Hid (BoxA v w.heap.size 49 q.cells):=by subst hv;exact BB
 have HCC:Hid (v.cell? ⟨b,o+1,none⟩=some (.map (some B))):=by subst hv;exact CC
 have HS:Hid (v.heap.size=v0.heap.size):=by subst hv;rfl
 have HM:Hid (MapS v B l):=by subst hv;exact MM
 have HX:Hid (BndIs f D v q G):=by subst hv;exact XX.imp (fun _ h=>h) (fun _ _=>rfl)
 have HE:Hid (∀ g,D g→g<v.heap.size):=by subst hv;exact EE
 have HKV:Hid (Below w.heap.size w v):=by subst hv;exact KK.drew
 have k0:Below v.heap.size v v:=Below.refl _ _;have lF:w.heap.size<v.heap.size:=HB.out.lt;have lb:b<v.heap.size:=by have:=HS.out;omega
 have HC:Hid (∀ V,Below v.heap.size v V→(fun V=>V.cell? ⟨b,o+1,none⟩=some (.map (some B))∧V.cell? ⟨w.heap.size,0,none⟩=some (.int .i64 q.k)∧V.cell? ⟨w.heap.size,1,none⟩=some (.slice q.a1 q.n1 q.y1)∧V.cell? ⟨w.heap.size,2,none⟩=some (.slice q.a2 q.n2 q.y2)∧V.cell? ⟨w.heap.size,3,none⟩=some (.string q.s1)∧V.cell? ⟨w.heap.size,4,none⟩=some (.string q.s2)∧V.cell? ⟨w.heap.size,5,none⟩=some (.string q.s3)∧V.cell? ⟨w.heap.size,6,none⟩=some (.string q.s4)∧V.cell? ⟨w.heap.size,7,none⟩=some (.slice q.b1 q.m1 q.z1)∧V.cell? ⟨w.heap.size,8,none⟩=some (.slice q.b2 q.m2 q.z2)∧V.cell? ⟨w.heap.size,9,none⟩=some (.slice q.b3 q.m3 q.z3)∧V.cell? ⟨w.heap.size,10,none⟩=some (.slice q.b4 q.m4 q.z4)∧V.cell? ⟨w.heap.size,11,none⟩=some (.bool q.br)∧V.cell? ⟨w.heap.size,12,none⟩=some (.int .i64 q.ln)) V):=fun V hV=>⟨(hV.cell (p:=⟨b,o+1,none⟩) lb).trans HCC.out,cells13 (HB.out.below hV lF)⟩;have HCB:Hid (∀ V,Kp B v V→(fun V=>V.cell? ⟨b,o+1,none⟩=some (.map (some B))∧V.cell? ⟨w.heap.size,0,none⟩=some (.int .i64 q.k)∧V.cell? ⟨w.heap.size,1,none⟩=some (.slice q.a1 q.n1 q.y1)∧V.cell? ⟨w.heap.size,2,none⟩=some (.slice q.a2 q.n2 q.y2)∧V.cell? ⟨w.heap.size,3,none⟩=some (.string q.s1)∧V.cell? ⟨w.heap.size,4,none⟩=some (.string q.s2)∧V.cell? ⟨w.heap.size,5,none⟩=some (.string q.s3)∧V.cell? ⟨w.heap.size,6,none⟩=some (.string q.s4)∧V.cell? ⟨w.heap.size,7,none⟩=some (.slice q.b1 q.m1 q.z1)∧V.cell? ⟨w.heap.size,8,none⟩=some (.slice q.b2 q.m2 q.z2)∧V.cell? ⟨w.heap.size,9,none⟩=some (.slice q.b3 q.m3 q.z3)∧V.cell? ⟨w.heap.size,10,none⟩=some (.slice q.b4 q.m4 q.z4)∧V.cell? ⟨w.heap.size,11,none⟩=some (.bool q.br)∧V.cell? ⟨w.heap.size,12,none⟩=some (.int .i64 q.ln)) V):=fun V hV=>⟨by have:=hV.block b lb hbB;simp only [World.cell?,this];exact HCC.out,cells13 (HB.out.of_blk (hV.block w.heap.size lF hFB))⟩;clear BB CC MM XX EE KK;refine wp_region_held_drew (S:=(fun V=>V.cell? ⟨b,o+1,none⟩=some (.map (some B))∧V.cell? ⟨w.heap.size,0,none⟩=some (.int .i64 q.k)∧V.cell? ⟨w.heap.size,1,none⟩=some (.slice q.a1 q.n1 q.y1)∧V.cell? ⟨w.heap.size,2,none⟩=some (.slice q.a2 q.n2 q.y2)∧V.cell? ⟨w.heap.size,3,none⟩=some (.string q.s1)∧V.cell? ⟨w.heap.size,4,none⟩=some (.string q.s2)∧V.cell? ⟨w.heap.size,5,none⟩=some (.string q.s3)∧V.cell? ⟨w.heap.size,6,none⟩=some (.string q.s4)∧V.cell? ⟨w.heap.size,7,none⟩=some (.slice q.b1 q.m1 q.z1)∧V.cell? ⟨w.heap.size,8,none⟩=some (.slice q.b2 q.m2 q.z2)∧V.cell? ⟨w.heap.size,9,none⟩=some (.slice q.b3 q.m3 q.z3)∧V.cell? ⟨w.heap.size,10,none⟩=some (.slice q.b4 q.m4 q.z4)∧V.cell? ⟨w.heap.size,11,none⟩=some (.bool q.br)∧V.cell? ⟨w.heap.size,12,none⟩=some (.int .i64 q.ln))) (by kernel_rfl) (by rw [hv];exact HC.out v k0) (fun hS => ?_);rw [hv] at hS ⊢;clear hv;refine wpAnyH_take (i:=0) (v:=.pointer (some ⟨b,o,none⟩)) rfl (by kernel_rfl) (by kernel_rfl) (by kernel_rfl) (fun _ _ _ h=>h) (Or.inl ⟨by rfl,(by intro w hSw;(try dsimp only at hSw);go_simp)⟩) (by assumption) ?_;simp only [Act.put,List.setIfInBounds_toArray,List.set_cons_zero,List.set_cons_succ];refine wpAnyH_take (i:=1) (v:=.pointer (some ⟨b,o,none⟩)) rfl (by kernel_rfl) (by kernel_rfl) (by kernel_rfl) (fun _ _ _ h=>h) (Or.inl ⟨by rfl,(by intro w hSw;(try dsimp only at hSw);go_simp)⟩) (by assumption) ?_;simp only [Act.put,List.setIfInBounds_toArray,List.set_cons_zero,List.set_cons_succ];refine wpAnyH_take (i:=2) (v:=.pointer (some ⟨b,o+1,none⟩)) rfl (by kernel_rfl) (by kernel_rfl) (by kernel_rfl) (fun _ _ _ h=>h) (Or.inl ⟨by rfl,(by intro w hSw;(try dsimp only at hSw);go_simp)⟩) (by assumption) ?_;simp only [Act.put,List.setIfInBounds_toArray,List.set_cons_zero,List.set_cons_succ];refine wpAnyH_take (i:=3) (v:=.map (some B)) rfl (by kernel_rfl) (by kernel_rfl) (by kernel_rfl) (fun _ _ _ h=>h) (Or.inl ⟨by rfl,(by intro w hSw;(try dsimp only at hSw);go_simp)⟩) (by assumption) ?_;simp only [Act.put,List.setIfInBounds_toArray,List.set_cons_zero,List.set_cons_succ]
 refine wpAnyH_take (i:=4) (v:=.string x) rfl (by kernel_rfl) (by kernel_rfl) (by kernel_rfl) (fun _ _ _ h=>h) (Or.inl ⟨by rfl,(by intro w hSw;(try dsimp only at hSw);go_simp)⟩) (by assumption) ?_;simp only [Act.put,List.setIfInBounds_toArray,List.set_cons_zero,List.set_cons_succ];refine wpAnyH_take (i:=5) (v:=.agg #[.int .i64 q.k,.slice q.a1 q.n1 q.y1,.slice q.a2 q.n2 q.y2,.string q.s1,.string q.s2,.string q.s3,.string q.s4,.slice q.b1 q.m1 q.z1,.slice q.b2 q.m2 q.z2,.slice q.b3 q.m3 q.z3,.slice q.b4 q.m4 q.z4,.bool q.br,.int .i64 q.ln]) rfl (by kernel_rfl) (by kernel_rfl) (by kernel_rfl) (fun _ _ _ h=>h) (Or.inl ⟨by rfl,(by intro w hSw;(try dsimp only at hSw);go_simp)⟩) (by assumption) ?_;simp only [Act.put,List.setIfInBounds_toArray,List.set_cons_zero,List.set_cons_succ];refine wpAnyH_ready (rs:=[6]) (by kernel_rfl) (by simp) ?_;refine AllReadyH.cons rfl (fun K hK => ?_) AllReadyH.nil;go_simp
 refine (copyBnd (x:=q) HX.out HE.out).mono ?_;rintro e w1 ⟨y,rfl,hY,q1⟩;have hs1:=q1.size;have k1:Below v.heap.size v w1:=q1;have j1:=HC.out w1 k1;obtain ⟨w2,hput,hM2,hk2,hs2⟩:=(HM.out.below q1 HM.out.lt).put (k:=x) Tryz.underlying72 Tryz.underlying9 (.agg y.cells);have HY:Hid (BndIs f (Fr v.heap.size w2.heap.size) w2 y (cpB G)):=by
  rw [hs2];exact hY.imp (fun _ h=>h) (fun g hg=>hk2.block g hg.2 (by have:=hg.1;have:=HM.out.lt;omega))
 have HM2:Hid (MapS w2 B (putS x (.agg y.cells) l)):=hM2;have HKP:Hid (Kp B v w2):=(Kp.of_below q1).trans hk2;have j2:=HCB.out w2 HKP.out;clear hY hM2;go_simp
 refine hK.out _ _ (j1) (fun _ => ?_);clear hK K;refine wpAnyH_ready (rs:=[7]) (by kernel_rfl) (by simp) ?_;refine AllReadyH.cons rfl (fun K hK => ?_) AllReadyH.nil;go_simp
 go_simp
 refine hK.out _ _ (j2) (fun _ => ?_);clear hK K;refine wpAnyH_done (by kernel_rfl) ?_ _;have HF:Hid (MapS w2 B (putS x (.agg y.cells) l)∧BndIs f (Fr w.heap.size w2.heap.size) w2 y (cpB G)∧Kp B w w2):=⟨HM2.out,HY.out.imp (fun g hg=>⟨by have:=hg.1;omega,hg.2⟩) (fun _ _=>rfl),(Kp.of_below HKV.out).trans HKP.out⟩;clear HB HCC HS HM HX HE HKV HC HCB HY HM2 HKP hput hk2 hs2 hs1 j1 j2 k0 k1 q1 hS;dsimp only [NoPanic];go_wp2
 exact bodyPost_end (v:=.tuple #[]) (by simp [results,Tryz.results74,go_sem]) rfl ⟨rfl,y,HF.out⟩
theorem frPut_none {q:BV} {G:Bd} (x:ByteArray) (hc:w.cell? ⟨b,o+1,none⟩=some (.map none)) (hf:w.frozen? ⟨b,o+1,none⟩=false) (hb:b<w.heap.size) (hX:BndIs f D w q G) (hD:∀ g,D g→g<w.heap.size) (hbD:¬ D b) :
    Calls Tryz.prog 74 #[.pointer (some ⟨b,o,none⟩),.string x,.agg q.cells] w fun e w'=>e=.returned (.tuple #[])∧∃ B,w.heap.size≤B∧∃ y:BV,MapS w' B [(x,.agg y.cells)]∧BndIs f (fun g=>Fr w.heap.size w'.heap.size g∧g≠B) w' y (cpB G)∧w'.heap[b]? = (w.setCell ⟨b,o+1,none⟩ (.map (some B))).heap[b]?∧Kp b w w':=by
 have e1:=below_alloc w (.cells q.cells 49);have B1:=boxA_new w q.cells 49;have hc1:=(e1.cell (p:=⟨b,o+1,none⟩) hb).trans hc;have hf1:=(frozen_below e1 hb).trans hf;have hnil:=eqlNilN;have hmk:=mkMapN (w.alloc (.cells q.cells 49));have e2:=below_alloc (w.alloc (.cells q.cells 49)) (.map #[] 0);have kw:=e1.trans (e2.mono e1.size);have M2:=MapS.new (w.alloc (.cells q.cells 49));rw [World.size_alloc] at M2 hmk;have B2:=B1.below e2 (by simp);have hs2:((w.alloc (.cells q.cells 49)).alloc (.map #[] 0)).heap.size=w.heap.size+2:=by simp
 generalize hW:(w.alloc (.cells q.cells 49)).alloc (.map #[] 0)=w2 at *;have hc2:=(kw.cell (p:=⟨b,o+1,none⟩) hb).trans hc;have hf2:=(frozen_below kw hb).trans hf;clear hW e2 B1;go_enter Tryz.func74,Tryz.ntmps74
 go_upto_region 3 with fail
 obtain ⟨B,hB⟩:∃ B,w.heap.size+1=B:=⟨_,rfl⟩;rw [hB] at M2 ⊢;obtain ⟨l,hl⟩:∃ l:List EntS,l=[]:=⟨_,rfl⟩;rw [← hl] at M2;have oth:∀ g,g≠b→(w2.setCell ⟨b,o+1,none⟩ (.map (some B))).heap[g]? = w2.heap[g]?:=fun g hg=>set1_other (fun e=>hg e.symm) _;have BB:BoxA (w2.setCell ⟨b,o+1,none⟩ (.map (some B))) w.heap.size 49 q.cells:=B2.of_blk (oth _ (by omega));have CC:(w2.setCell ⟨b,o+1,none⟩ (.map (some B))).cell? ⟨b,o+1,none⟩=some (.map (some B)):=World.cell?_setCell_same _ _ _ hc2;have MM:MapS (w2.setCell ⟨b,o+1,none⟩ (.map (some B))) B l:=M2.of_block (oth _ (by omega));have XX:BndIs f D (w2.setCell ⟨b,o+1,none⟩ (.map (some B))) q G:=hX.imp (fun _ h=>h) (fun g hg=>(oth g (fun e=>hbD (e ▸ hg))).trans (kw.block g (hD g hg)));have EE:∀ g,D g→g<(w2.setCell ⟨b,o+1,none⟩ (.map (some B))).heap.size:=fun g hg=>by
  have:=hD g hg;rw [set1_size];omega
 have KK:Kp b w (w2.setCell ⟨b,o+1,none⟩ (.map (some B)))∧(w2.setCell ⟨b,o+1,none⟩ (.map (some B))).heap[b]? = (w.setCell ⟨b,o+1,none⟩ (.map (some B))).heap[b]?:=by
  refine ⟨(Kp.of_below kw).trans ⟨rfl,rfl,rfl,by simp [World.setCell],fun g _ hg=>set1_other (fun e=>hg e.symm) _⟩,?_⟩;simp [World.setCell,Array.getElem?_modify,kw.block b hb]
 have hs0:(w2.setCell ⟨b,o+1,none⟩ (.map (some B))).heap.size=w.heap.size+2:=by rw [set1_size];exact hs2
 have hFB:w.heap.size≠B:=by omega
 have hbB:b≠B:=by omega
 have hBs:B<w.heap.size+2∧w.heap.size<B:=by omega
 generalize hv0:w2.setCell ⟨b,o+1,none⟩ (.map (some B))=v0 at *;clear hv0 oth M2 B2 hX hc hf hc1 hf1 hc2 hf2 hmk kw e1 hs2 hB;refine wp_region_noPanic ?_;obtain ⟨v,hv⟩:∃ v,v0.drew=v:=⟨_,rfl⟩;have HB:Hid (BoxA v w.heap.size 49 q.cells):=by subst hv;exact BB
 have HCC:Hid (v.cell? ⟨b,o+1,none⟩=some (.map (some B))):=by subst hv;exact CC
 have HS:Hid (v.heap.size=v0.heap.size):=by subst hv;rfl
 have HM:Hid (MapS v B l):=by subst hv;exact MM
 have HX:Hid (BndIs f D v q G):=by subst hv;exact XX.imp (fun _ h=>h) (fun _ _=>rfl)
 have HE:Hid (∀ g,D g→g<v.heap.size):=by subst hv;exact EE
 have HKV:Hid (Kp b w v∧v.heap[b]? = (w.setCell ⟨b,o+1,none⟩ (.map (some B))).heap[b]?):=by subst hv;exact ⟨⟨KK.1.os,KK.1.tape,KK.1.output,KK.1.size,KK.1.block⟩,KK.2⟩
 have k0:Below v.heap.size v v:=Below.refl _ _;have lF:w.heap.size<v.heap.size:=HB.out.lt;have lb:b<v.heap.size:=by have:=HS.out;omega
 have HC:Hid (∀ V,Below v.heap.size v V→(fun V=>V.cell? ⟨b,o+1,none⟩=some (.map (some B))∧V.cell? ⟨w.heap.size,0,none⟩=some (.int .i64 q.k)∧V.cell? ⟨w.heap.size,1,none⟩=some (.slice q.a1 q.n1 q.y1)∧V.cell? ⟨w.heap.size,2,none⟩=some (.slice q.a2 q.n2 q.y2)∧V.cell? ⟨w.heap.size,3,none⟩=some (.string q.s1)∧V.cell? ⟨w.heap.size,4,none⟩=some (.string q.s2)∧V.cell? ⟨w.heap.size,5,none⟩=some (.string q.s3)∧V.cell? ⟨w.heap.size,6,none⟩=some (.string q.s4)∧V.cell? ⟨w.heap.size,7,none⟩=some (.slice q.b1 q.m1 q.z1)∧V.cell? ⟨w.heap.size,8,none⟩=some (.slice q.b2 q.m2 q.z2)∧V.cell? ⟨w.heap.size,9,none⟩=some (.slice q.b3 q.m3 q.z3)∧V.cell? ⟨w.heap.size,10,none⟩=some (.slice q.b4 q.m4 q.z4)∧V.cell? ⟨w.heap.size,11,none⟩=some (.bool q.br)∧V.cell? ⟨w.heap.size,12,none⟩=some (.int .i64 q.ln)) V):=fun V hV=>⟨(hV.cell (p:=⟨b,o+1,none⟩) lb).trans HCC.out,cells13 (HB.out.below hV lF)⟩;have HCB:Hid (∀ V,Kp B v V→(fun V=>V.cell? ⟨b,o+1,none⟩=some (.map (some B))∧V.cell? ⟨w.heap.size,0,none⟩=some (.int .i64 q.k)∧V.cell? ⟨w.heap.size,1,none⟩=some (.slice q.a1 q.n1 q.y1)∧V.cell? ⟨w.heap.size,2,none⟩=some (.slice q.a2 q.n2 q.y2)∧V.cell? ⟨w.heap.size,3,none⟩=some (.string q.s1)∧V.cell? ⟨w.heap.size,4,none⟩=some (.string q.s2)∧V.cell? ⟨w.heap.size,5,none⟩=some (.string q.s3)∧V.cell? ⟨w.heap.size,6,none⟩=some (.string q.s4)∧V.cell? ⟨w.heap.size,7,none⟩=some (.slice q.b1 q.m1 q.z1)∧V.cell? ⟨w.heap.size,8,none⟩=some (.slice q.b2 q.m2 q.z2)∧V.cell? ⟨w.heap.size,9,none⟩=some (.slice q.b3 q.m3 q.z3)∧V.cell? ⟨w.heap.size,10,none⟩=some (.slice q.b4 q.m4 q.z4)∧V.cell? ⟨w.heap.size,11,none⟩=some (.bool q.br)∧V.cell? ⟨w.heap.size,12,none⟩=some (.int .i64 q.ln)) V):=fun V hV=>⟨by have:=hV.block b lb hbB;simp only [World.cell?,this];exact HCC.out,cells13 (HB.out.of_blk (hV.block w.heap.size lF hFB))⟩;clear BB CC MM XX EE KK;refine wp_region_held_drew (S:=(fun V=>V.cell? ⟨b,o+1,none⟩=some (.map (some B))∧V.cell? ⟨w.heap.size,0,none⟩=some (.int .i64 q.k)∧V.cell? ⟨w.heap.size,1,none⟩=some (.slice q.a1 q.n1 q.y1)∧V.cell? ⟨w.heap.size,2,none⟩=some (.slice q.a2 q.n2 q.y2)∧V.cell? ⟨w.heap.size,3,none⟩=some (.string q.s1)∧V.cell? ⟨w.heap.size,4,none⟩=some (.string q.s2)∧V.cell? ⟨w.heap.size,5,none⟩=some (.string q.s3)∧V.cell? ⟨w.heap.size,6,none⟩=some (.string q.s4)∧V.cell? ⟨w.heap.size,7,none⟩=some (.slice q.b1 q.m1 q.z1)∧V.cell? ⟨w.heap.size,8,none⟩=some (.slice q.b2 q.m2 q.z2)∧V.cell? ⟨w.heap.size,9,none⟩=some (.slice q.b3 q.m3 q.z3)∧V.cell? ⟨w.heap.size,10,none⟩=some (.slice q.b4 q.m4 q.z4)∧V.cell? ⟨w.heap.size,11,none⟩=some (.bool q.br)∧V.cell? ⟨w.heap.size,12,none⟩=some (.int .i64 q.ln))) (by kernel_rfl) (by rw [hv];exact HC.out v k0) (fun hS => ?_);rw [hv] at hS ⊢;clear hv;refine wpAnyH_take (i:=0) (v:=.pointer (some ⟨b,o,none⟩)) rfl (by kernel_rfl) (by kernel_rfl) (by kernel_rfl) (fun _ _ _ h=>h) (Or.inl ⟨by rfl,(by intro w hSw;(try dsimp only at hSw);go_simp)⟩) (by assumption) ?_;simp only [Act.put,List.setIfInBounds_toArray,List.set_cons_zero,List.set_cons_succ];refine wpAnyH_take (i:=1) (v:=.pointer (some ⟨b,o,none⟩)) rfl (by kernel_rfl) (by kernel_rfl) (by kernel_rfl) (fun _ _ _ h=>h) (Or.inl ⟨by rfl,(by intro w hSw;(try dsimp only at hSw);go_simp)⟩) (by assumption) ?_;simp only [Act.put,List.setIfInBounds_toArray,List.set_cons_zero,List.set_cons_succ];refine wpAnyH_take (i:=2) (v:=.pointer (some ⟨b,o+1,none⟩)) rfl (by kernel_rfl) (by kernel_rfl) (by kernel_rfl) (fun _ _ _ h=>h) (Or.inl ⟨by rfl,(by intro w hSw;(try dsimp only at hSw);go_simp)⟩) (by assumption) ?_;simp only [Act.put,List.setIfInBounds_toArray,List.set_cons_zero,List.set_cons_succ];refine wpAnyH_take (i:=3) (v:=.map (some B)) rfl (by kernel_rfl) (by kernel_rfl) (by kernel_rfl) (fun _ _ _ h=>h) (Or.inl ⟨by rfl,(by intro w hSw;(try dsimp only at hSw);go_simp)⟩) (by assumption) ?_;simp only [Act.put,List.setIfInBounds_toArray,List.set_cons_zero,List.set_cons_succ]
 refine wpAnyH_take (i:=4) (v:=.string x) rfl (by kernel_rfl) (by kernel_rfl) (by kernel_rfl) (fun _ _ _ h=>h) (Or.inl ⟨by rfl,(by intro w hSw;(try dsimp only at hSw);go_simp)⟩) (by assumption) ?_;simp only [Act.put,List.setIfInBounds_toArray,List.set_cons_zero,List.set_cons_succ];refine wpAnyH_take (i:=5) (v:=.agg #[.int .i64 q.k,.slice q.a1 q.n1 q.y1,.slice q.a2 q.n2 q.y2,.string q.s1,.string q.s2,.string q.s3,.string q.s4,.slice q.b1 q.m1 q.z1,.slice q.b2 q.m2 q.z2,.slice q.b3 q.m3 q.z3,.slice q.b4 q.m4 q.z4,.bool q.br,.int .i64 q.ln]) rfl (by kernel_rfl) (by kernel_rfl) (by kernel_rfl) (fun _ _ _ h=>h) (Or.inl ⟨by rfl,(by intro w hSw;(try dsimp only at hSw);go_simp)⟩) (by assumption) ?_;simp only [Act.put,List.setIfInBounds_toArray,List.set_cons_zero,List.set_cons_succ];refine wpAnyH_ready (rs:=[6]) (by kernel_rfl) (by simp) ?_;refine AllReadyH.cons rfl (fun K hK => ?_) AllReadyH.nil;go_simp
 refine (copyBnd (x:=q) HX.out HE.out).mono ?_;rintro e w1 ⟨y,rfl,hY,q1⟩;have hs1:=q1.size;have k1:Below v.heap.size v w1:=q1;have j1:=HC.out w1 k1;obtain ⟨w2,hput,hM2,hk2,hs2⟩:=(HM.out.below q1 HM.out.lt).put (k:=x) Tryz.underlying72 Tryz.underlying9 (.agg y.cells);have HY:Hid (BndIs f (Fr v.heap.size w2.heap.size) w2 y (cpB G)):=by
  rw [hs2];exact hY.imp (fun _ h=>h) (fun g hg=>hk2.block g hg.2 (by have:=hg.1;have:=HM.out.lt;omega))
 have HM2:Hid (MapS w2 B (putS x (.agg y.cells) l)):=hM2;have HKP:Hid (Kp B v w2):=(Kp.of_below q1).trans hk2;have j2:=HCB.out w2 HKP.out;clear hY hM2;go_simp
 refine hK.out _ _ (j1) (fun _ => ?_);clear hK K;refine wpAnyH_ready (rs:=[7]) (by kernel_rfl) (by simp) ?_;refine AllReadyH.cons rfl (fun K hK => ?_) AllReadyH.nil;go_simp
 go_simp
 refine hK.out _ _ (j2) (fun _ => ?_);clear hK K;refine wpAnyH_done (by kernel_rfl) ?_ _;have HF:Hid (w.heap.size≤B∧∃ y:BV,MapS w2 B [(x,.agg y.cells)]∧BndIs f (fun g=>Fr w.heap.size w2.heap.size g∧g≠B) w2 y (cpB G)∧w2.heap[b]? = (w.setCell ⟨b,o+1,none⟩ (.map (some B))).heap[b]?∧Kp b w w2):=by
  have sv:=HS.out;have hm:=HM2.out;rw [hl] at hm;refine ⟨by omega,y,hm,HY.out.imp (fun g hg=>⟨⟨by have:=hg.1;omega,hg.2⟩,by have:=hg.1;omega⟩) (fun _ _=>rfl),(HKP.out.block b lb hbB).trans HKV.out.2,?_⟩;have k1:=HKV.out.1;have k2:=HKP.out;exact ⟨k2.os.trans k1.os,k2.tape.trans k1.tape,k2.output.trans k1.output,Nat.le_trans k1.size k2.size,fun g hg hgb=>(k2.block g (by omega) (by omega)).trans (k1.block g hg hgb)⟩
 clear HB HCC HS HM HX HE HKV HC HCB HY HM2 HKP hput hk2 hs2 hs1 j1 j2 k0 k1 q1 hS;dsimp only [NoPanic];exact bodyPost_end (v:=.tuple #[]) (by simp [results,Tryz.results74,go_sem]) rfl ⟨rfl,B,HF.out⟩
end
section
open Go.RowKit
def Erased (w w':World) (mb:Option Nat) (x:ByteArray) (l:List EntS):Prop:=(mb=none∧Below w.heap.size w w')∨∃ B,mb=some B∧MapS w' B (delS x l)∧Kp B w w'
theorem frErase_any {l:List EntS} (x:ByteArray) (hc:w.cell? ⟨b,o+1,none⟩=some (.map mb)) (hb:b<w.heap.size) (hM:FrM w mb l) (h13:∀ p∈l,Is13 p.2) :
    Calls Tryz.prog 46 #[.pointer (some ⟨b,o,none⟩),.string x] w fun e w'=>e=.returned (.bool (hasS x l))∧Erased w w' mb x l:=by
 obtain ⟨q,hv⟩:=at13 h13 x;have kz:=below_alloc w (.cells q.cells 49);have hMz:=hM.below kz;have hc2:=(kz.cell (p:=⟨b,o+1,none⟩) hb).trans hc;have hget:=hM.get x;rw [hv] at hget;obtain ⟨w1,hdel,hE⟩:∃ w1,(∀ ty,(Builtin.delete_ #[72,9] ty #[.map mb,.string x]).run Tryz.prog (w.alloc (.cells q.cells 49))=.ok (.tuple #[]) w1)∧Erased w w1 mb x l:=by
  rcases hMz with ⟨rfl,_⟩ | ⟨B,rfl,h2⟩
  · exact ⟨_,fun ty=>del_nil x ty _,Or.inl ⟨rfl,kz⟩⟩
  · obtain ⟨w1,h3,h4,h5,h6⟩:=h2.del (k:=x) (ty:=0) Tryz.underlying72 Tryz.underlying9
    exact ⟨w1,fun ty=>h3,Or.inr ⟨B,rfl,h4,(Kp.of_below kz).trans h5⟩⟩
 have HR:Hid (Erased w w1 mb x l):=hE;generalize hasS x l=H at *;clear hv hM hMz h13 hE kz;go_enter Tryz.func46,Tryz.ntmps46;go_wp2
 go_ret
 exact ⟨rfl,HR.out⟩
end
end Go.Proofs.YtimfnalpmmkndaaGreatDoor
