/- shape.droppedOf, at numbers from 0 on. -/
import Derived.Test.YtheaeggecpfcbaaGreatI3
import Derived.Test.YtheaeggecpfcbaaGreatH7
set_option maxRecDepth 100000
set_option maxHeartbeats 3200000
set_option linter.unusedVariables false
set_option linter.unusedSimpArgs false
namespace Go.Proofs.YtheaeggecpfcbaaGreat
open Go.RowKit
/-- An address that slicing leaves: that of the place, or the old one where nothing is behind it. -/
def backA (a:Option Addr) (cap q:Nat):Option Addr:=if cap - q=0 then a else a.map (fun x=>x.add q)
theorem slice_drop (a:Option Addr) (L cap q:Nat) (h1:q≤L) (h2:L≤cap) (ha:a=none→cap=0) (w:World):(Instr.sliceAt 23 (.slice a L cap) (some (.int .i64 (q:Int))) none none).run Tryz.prog w=.ok (.slice (backA a cap q) (L - q) (cap - q)) w:=by
 have hu:=Tryz.underlying23;have h0:(0:Int)≤(q:Int):=by omega
 unfold backA;simp [Instr.sliceAt,Instr.slice,Instr.sliceBounds,Instr.sliceBound,go_sem,hu,h0];rw [if_pos h1];by_cases h:cap=q
 · rw [if_pos h,if_pos (by omega)]
 · rw [if_neg h,if_neg (by omega)]
theorem rdN_back {D:Nat→Prop} {w:World} {a:Option Addr} {c q:Nat} {l:List Int} (h:RdN D w (.slice a l.length c) l) (hq:q≤l.length):RdN D w (.slice (backA a c q) (l.drop q).length (c - q)) (l.drop q):=by
 obtain ⟨hin,a',c',e,h1,h2,h3,h4⟩:=h
 cases e
 have hl:(l.drop q).length=l.length - q:=List.length_drop;refine ⟨fun x hx=>hin x (List.mem_of_mem_drop hx),_,_,rfl,by omega,by omega,fun hn => ?_,?_⟩
 · unfold backA at hn
   by_cases hc:c - q=0
   · exact hc
   · rw [if_neg hc] at hn
     have:=h3 (by simpa using hn);omega
 · rcases h4 with h4 | ⟨b,off,rfl,hb,hc⟩
   · exact Or.inl (by omega)
   · by_cases hz:l.length - q=0
     · exact Or.inl (by omega)
     · refine Or.inr ⟨b,off+q,?_,hb,fun j hj => ?_⟩
       · unfold backA
         rw [if_neg (by omega)];simp [Addr.add]
       · have:=hc (q+j) (by omega)
         rw [Nat.add_assoc,this]
         congr 2
         rw [List.getD_eq_getElem?_getD,List.getD_eq_getElem?_getD,List.getElem?_drop]
section
variable {D:Nat→Prop} {w:World} {a:Option Addr} {c n:Nat} {l:List Int}
theorem dropOf_any (h:RdN D w (.slice a l.length c) l) (hn:n≤1000000) :
    Calls Tryz.prog 101 #[.slice a l.length c,.int .i64 n] w fun e w'=>∃ a' c',e=.returned (.slice a' (l.drop n).length c')∧RdN D w' (.slice a' (l.drop n).length c') (l.drop n)∧Below w.heap.size w w':=by
 have bd:=h.bounds;have HR:Hid (RdN D w (.slice a l.length c) l):=h;have ha:a=none→c=0:=by obtain ⟨_,a',c',e,_,_,h3,_⟩:=h;cases e;exact h3
 obtain ⟨L,hL⟩:∃ L,l.length=L:=⟨_,rfl⟩;have HL:Hid (l.length=L):=hL;rw [hL] at bd ⊢;have hn0:decide ((n:Int)<0)=false:=decide_eq_false (by omega);have hn1:¬ (n:Int)<0:=by omega
 obtain ⟨q,hq⟩:∃ q,min n L=q:=⟨_,rfl⟩;have HQ:Hid (min n L=q):=hq;have hmin:min (n:Int) (L:Int)=(q:Int):=by omega
 have hs:=slice_drop a L c q (by omega) bd.1 ha;clear h hL ha hq;go_enter Tryz.func101,Tryz.ntmps101
 go_wp2_with fail
 have hd:l.drop n=l.drop q:=by
  have hl:=HL.out;have hq:=HQ.out;by_cases h:n≤L
  · rw [show n=q by omega]
  · rw [List.drop_of_length_le (by omega),List.drop_of_length_le (by omega)]
 have hlen:l.length - n=L - q:=by have hl:=HL.out;have hq:=HQ.out;omega
 have hr:=rdN_back (q:=q) HR.out (by have hl:=HL.out;have hq:=HQ.out;omega);rw [List.length_drop,HL.out] at hr;go_ret
 exact ⟨backA a c q,c - q,by rw [hlen];rfl,by rw [hlen,hd];exact hr,Below.refl _ _⟩
end
def upZ (L:Nat):List Int:=(List.range L).map fun (i:Nat)=>(i:Int)
theorem stepE_one (L:Nat):stepE [(L:Int)]=[upZ L]:=by
 have h1:stepE [(L:Int)]=[axF (L:Int) ((srow [(L:Int)]).getD 0 0)]:=rfl;rw [h1]
 congr 1
 cases L with
 | zero=>rfl
 | succ L=>
  have h2:srow [((L+1:Nat):Int)]=[1]:=by
   unfold srow;rw [if_neg (by simp;omega)];rfl
  rw [h2];unfold axF upZ;simp
theorem upZ_len (L:Nat):(upZ L).length=L:=by simp [upZ]
theorem upZ_in {L:Nat}:∀ x∈upZ L,0≤x∧x<(L:Int):=by
 intro x hx;obtain ⟨i,hi,rfl⟩:=List.mem_map.1 hx;have:=List.mem_range.1 hi;exact ⟨by omega,by omega⟩
theorem walkF_one {l:List Int} (h:∀ x∈l,0≤x):walkF [l]=l:=by
 have h1:walkF [l]=[(0:Int)].flatMap fun p=>l.map (onw p):=by simp [walkF,walkR]
 rw [h1];simp only [List.flatMap_cons,List.flatMap_nil,List.append_nil]
 conv=>rhs;rw [← List.map_id l]
 apply List.map_congr_left;intro x hx;have:=h x hx;unfold onw;rw [if_neg (by omega)];simp
theorem sel_drop {t:Tr} {L:Nat} (n:Nat) (hL:t.kids.length=L):selP t ((upZ L).drop n)=t.kids.drop n:=by
 subst hL;have h:selP t (upZ t.kids.length)=t.kids:=by
  rw [selP_F (fun p hp=>(upZ_in p hp).1)];refine List.ext_getElem (by simp [selF,upZ_len]) fun i h1 h2 => ?_;simp [selF,upZ,List.getD_eq_getElem?_getD,List.getElem?_eq_getElem h2]
 unfold selP at h ⊢;rw [List.map_drop,h]
/-- What is left of a vector. -/
def dropT (n:Nat) (t:Tr):Tr:=if t.kids.drop n=[]∨(sizeF t.ns).1=0 then arrT [0] [tyI (t.kids.getD 0 tr0)] else arrT [((t.kids.drop n).length:Int)] (t.kids.drop n)
theorem rows_put {w2 w5:World} {u:Value} {a:Option Addr} {c:Nat} {l:List Int} (hbx:BoxA w5 w2.heap.size 23 #[u]) (hv:RdN (fun g=>w2.heap.size<g∧g<w5.heap.size) w5 (.slice a l.length c) l) :
    Rows2 (fun g=>w2.heap.size≤g∧g<w5.heap.size) (w5.setCell ⟨w2.heap.size,0,none⟩ (.slice a l.length c)) (some ⟨w2.heap.size,0,none⟩) 1 [l]:=by
 have hO:=hbx.lt;have BX:=hbx.putZ 0 (.slice a l.length c);refine ⟨Nat.le_refl _,by omega,Or.inr ⟨w2.heap.size,0,rfl,⟨Nat.le_refl _,by omega⟩,fun j hj => ?_⟩⟩;obtain rfl:j=0:=by simpa using hj
 refine ⟨a,c,BX.cell 0 rfl,hv.imp (fun g hg=>⟨by have:=hg.1;omega,hg.2⟩) (fun g hg => ?_)⟩;have hne:¬ w2.heap.size=g:=by have:=hg.1;omega
 simp [World.setCell,Array.getElem?_modify,hne]
theorem vec_len {t:Tr} {L:Nat} (h:t.ns=[(L:Int)]) (hm:(measF 16 t).isSome=true):L≤4096∧sizeF t.ns=((L:Int),0)∧(t.kids.length:Int)=max (L:Int) 1∧(measF 16 (arrT [(L:Int)] t.kids)).isSome=true:=by
 obtain ⟨L',hL',_,hE,hk,hk4,_⟩:=measF_some hm;rw [h] at hE hk;have h1:=size_vec hE;have h4:=(sizeF_in [(L:Int)]).2;rw [h1] at h4 hk;refine ⟨by omega,by rw [h];exact Prod.ext h1 hE,hk,?_⟩;have e:measF 16 (arrT [(L:Int)] t.kids)=measF 16 t:=by
  rw [← h,measF,measF];rfl
 rw [e];exact hm
theorem shOK_vec {t:Tr} {L:Nat} (h:t.ns=[(L:Int)]) (hm:(measF 16 t).isSome=true):ShOK [(L:Int)]:=by
 obtain ⟨h4,hs,_,_⟩:=vec_len h hm;rw [h] at hs;refine ⟨by rw [hs],fun x hx => ?_,fun k => ?_⟩
 · obtain rfl:x=(L:Int):=by simpa using hx
   omega
 · cases k with
   | zero=>show (L:Int)*1≤4096;omega
   | succ k=>rw [List.drop_succ_cons,List.drop_nil];decide
theorem selected_drop {D:Nat→Prop} {f n L:Nat} {w:World} {x1 x2 b:Option Addr} {y1 y2 c:Nat} {t:Tr} (hD:∀ g,D g→g<w.heap.size) (hA:ArV (f+1) D w (.slice x1 1 y1) (.slice x2 t.kids.length y2) t) (hm:(measF 16 t).isSome=true) (hns:t.ns=[(L:Int)]) (hR:Rows2 D w b c [(upZ L).drop n]) :
    Calls Tryz.prog 100 #[.agg #[.slice x1 1 y1,.slice x2 t.kids.length y2],.slice b 1 c] w fun e w'=>∃ z1 u1 z2 u2,e=.returned (.tuple #[.agg #[.slice z1 1 u1,.slice z2 (dropT n t).kids.length u2],.int .i64 0])∧ArV (f+1) (Fr w.heap.size w'.heap.size) w' (.slice z1 1 u1) (.slice z2 (dropT n t).kids.length u2) (dropT n t)∧Below w.heap.size w w':=by
 obtain ⟨h4,hs,hk,hr⟩:=vec_len hns hm;have hl1:t.ns.length=1:=by rw [hns];rfl
 have hdl:((upZ L).drop n).length=L - n:=by rw [List.length_drop,upZ_len]
 have hmem:∀ x∈(upZ L).drop n,0≤x∧x<(L:Int):=fun x hx=>upZ_in x (List.mem_of_mem_drop hx);have hSm:SmallS [(upZ L).drop n]:=⟨by simp,fun l hl s hs=>by
  obtain rfl:l=(upZ L).drop n:=by simpa using hl
  have:=hmem s hs;omega⟩
 have hll:∀ l∈[(upZ L).drop n],l.length≤1000000:=fun l hl=>by
  obtain rfl:l=(upZ L).drop n:=by simpa using hl
  omega
 have hlf:lenF [(upZ L).drop n]=[((L - n:Nat):Int)]:=by show [(((upZ L).drop n).length:Int)]=_;rw [hdl]
 have hA1:ArV (f+1) D w (.slice x1 t.ns.length y1) (.slice x2 t.kids.length y2) t:=by rw [hl1];exact hA
 by_cases hc:L≤n
 · have hz:dropT n t=arrT [0] [tyI (t.kids.getD 0 tr0)]:=by
    unfold dropT;rw [if_pos];by_cases h0:L=0
    · right;rw [hs,h0];rfl
    · left;exact List.drop_of_length_le (by omega)
   have h0:L - n=0:=by omega
   rw [h0] at hlf;have C:=selected_none hD hA1 hm hR hSm hll (by rw [hlf];decide);rw [hlf] at C;rw [hz];rw [hl1] at C;exact C
 · have hkl:t.kids.length=L:=by omega
   have hd0:t.kids.drop n≠[]:=fun h=>by have:=congrArg List.length h;rw [List.length_drop] at this;simp at this;omega
   have hz:dropT n t=arrT [((t.kids.drop n).length:Int)] (t.kids.drop n):=by
    unfold dropT;rw [if_neg];rintro (h | h)
    · exact hd0 h
    · rw [hs] at h;have h:(L:Int)=0:=h;omega
   have hwk:walkF [(upZ L).drop n]=(upZ L).drop n:=walkF_one (fun x hx=>(hmem x hx).1);have hsel:selP t (walkF [(upZ L).drop n])=t.kids.drop n:=by rw [hwk];exact sel_drop n hkl
   obtain ⟨f1,f2,f3⟩:=fit_drop n hr;have C:=selected_ok (N:=L - n) hD hA1 hm hR hSm hll (by rw [hlf,size_one (by omega) (by omega)]) (by rw [hlf,size_one (by omega) (by omega)]) (by omega) (by rw [hwk,hdl]) (by rw [hwk];exact fun p hp=>by have:=hmem p hp;omega) (by rw [hsel];exact f1) (by rw [hsel];exact f2) (by rw [hsel];exact f3);rw [hsel,hlf,hl1] at C;have hdk:(t.kids.drop n).length=L - n:=by rw [List.length_drop,hkl]
   have hdd:dropT n t=arrT [((L - n:Nat):Int)] (t.kids.drop n):=by rw [hz,hdk]
   have hdl2:(dropT n t).kids.length=L - n:=by rw [hdd];exact hdk
   rw [hdl2,hdd];exact C
theorem cutN_id {q:Int} (h0:0≤q) (h1:q≤4000):cutN q=q:=by unfold cutN;omega
section
variable {D:Nat→Prop} {f n L:Nat} {w:World} {x1 x2 a1 a2:Option Addr} {y1 y2 b1 b2:Nat} {t:Tr}
theorem dropped_vec (hD:∀ g,D g→g<w.heap.size) (hn:n≤4000) (hS:ArV (f+1) D w (.slice a1 0 b1) (.slice a2 1 b2) (arrT [] [wholeT (n:Int)])) (hr:(measF 16 (arrT [] [wholeT (n:Int)])).isSome=true)
    (hA:ArV (f+1) D w (.slice x1 1 y1) (.slice x2 t.kids.length y2) t) (hm:(measF 16 t).isSome=true) (hns:t.ns=[(L:Int)]) :
    Calls Tryz.prog 59 #[.agg #[.slice a1 0 b1,.slice a2 1 b2],.agg #[.slice x1 1 y1,.slice x2 t.kids.length y2]] w fun e w'=>∃ z1 u1 z2 u2,e=.returned (.tuple #[.agg #[.slice z1 1 u1,.slice z2 (dropT n t).kids.length u2],.int .i64 0])∧ArV (f+1) (Fr w.heap.size w'.heap.size) w' (.slice z1 1 u1) (.slice z2 (dropT n t).kids.length u2) (dropT n t)∧Below w.heap.size w w':=by
 have HD:Hid (∀ g,D g→g<w.heap.size):=hD;have HS:Hid (ArV (f+1) D w (.slice a1 0 b1) (.slice a2 1 b2) (arrT [] [wholeT (n:Int)])):=hS;have HRT:Hid ((measF 16 (arrT [] [wholeT (n:Int)])).isSome=true):=hr;have HA:Hid (ArV (f+1) D w (.slice x1 1 y1) (.slice x2 t.kids.length y2) t):=hA;have HM:Hid ((measF 16 t).isSome=true):=hm;have HNS:Hid (t.ns=[(L:Int)]):=hns;have HCN:Hid (cutN (n:Int)=(n:Int)):=cutN_id (by omega) (by omega);obtain ⟨k,hk⟩:∃ k,t.kids.length=k:=⟨_,rfl⟩;have HK:Hid (t.kids.length=k):=hk;rw [hk] at hA ⊢;clear hk;have k0:=below_alloc w (.cells #[.slice a1 0 b1,.slice a2 1 b2] 25);have S0:=boxA_new w #[.slice a1 0 b1,.slice a2 1 b2] 25;have k1:=below_alloc (w.alloc (.cells #[.slice a1 0 b1,.slice a2 1 b2] 25)) (.cells #[.slice x1 1 y1,.slice x2 k y2] 25);have X0:=boxA_new (w.alloc (.cells #[.slice a1 0 b1,.slice a2 1 b2] 25)) #[.slice x1 1 y1,.slice x2 k y2] 25;have k2:=below_alloc ((w.alloc (.cells #[.slice a1 0 b1,.slice a2 1 b2] 25)).alloc (.cells #[.slice x1 1 y1,.slice x2 k y2] 25)) (.cells #[.slice none 0 0,.slice none 0 0] 25);have R0:=boxA_new ((w.alloc (.cells #[.slice a1 0 b1,.slice a2 1 b2] 25)).alloc (.cells #[.slice x1 1 y1,.slice x2 k y2] 25)) #[.slice none 0 0,.slice none 0 0] 25;have S1:=(S0.below k1 (by simp)).below k2 (by simp;omega);have X1:=X0.below k2 (by simp);have kv:Below w.heap.size w _:=(k0.trans (k1.mono (by simp))).trans (k2.mono (by simp;omega));have sv:(((w.alloc (.cells #[.slice a1 0 b1,.slice a2 1 b2] 25)).alloc (.cells #[.slice x1 1 y1,.slice x2 k y2] 25)).alloc (.cells #[.slice none 0 0,.slice none 0 0] 25)).heap.size=w.heap.size+1+1+1:=by simp
 rw [World.size_alloc] at X1;rw [World.size_alloc,World.size_alloc] at R0;have z0:=S1.cell 0 rfl;have z1:=S1.cell 1 rfl;have z2:=X1.cell 0 rfl;have z3:=X1.cell 1 rfl;clear hD hS hr hA hm hns k0 k1 k2 X0 S0;go_enter Tryz.func59,Tryz.ntmps59
 go_wp2_with fail
 generalize hAA:((w.alloc (.cells #[.slice a1 0 b1,.slice a2 1 b2] 25)).alloc (.cells #[.slice x1 1 y1,.slice x2 k y2] 25)).alloc (.cells #[.slice none 0 0,.slice none 0 0] 25)=v at *;clear hAA;have C1:=perAxis_vec (w:=v) (x1:=x1) (y1:=y1) (x2:=x2) (n2:=k) (y2:=y2) (q:=(n:Int)) (fun g hg=>by have:=HD.out g hg;omega) (by omega) (HS.out.agree (Agree.of kv HD.out)) HRT.out;rw [HCN.out] at C1;refine C1.mono ?_;rintro e w1 ⟨a,c,rfl,hr,q1⟩;have HR:Hid (OwZ v.heap.size w1 (.slice a 1 c) [(n:Int)]):=hr;clear C1 hr z0 z1 z2 z3;have s1:=q1.size;have kw1:=kv.trans (q1.mono (by omega));have X2:=X1.below q1 (by omega);have R2:=R0.below q1 (by omega);have z0:=X2.cell 0 rfl;have z1:=X2.cell 1 rfl;have f0:=X2.frozen 0;have f1:=X2.frozen 1
 go_wp2_with fail
 obtain ⟨w3,hw3⟩:∃ w3,(w1.setCell ⟨w.heap.size+1,0,none⟩ (.slice x1 1 y1)).setCell ⟨w.heap.size+1,1,none⟩ (.slice x2 k y2)=w3:=⟨_,rfl⟩;have X3:=X2.set2 (.slice x1 1 y1) (.slice x2 k y2);have R3:=boxA_o (boxA_o R2 (p:=⟨w.heap.size+1,0,none⟩) (show w.heap.size+1≠w.heap.size+1+1 by omega) (.slice x1 1 y1)) (p:=⟨w.heap.size+1,1,none⟩) (show w.heap.size+1≠w.heap.size+1+1 by omega) (.slice x2 k y2);have kw3:=Below.set2 kw1 (show w.heap.size≤w.heap.size+1 by omega) (.slice x1 1 y1) (.slice x2 k y2);have HR3:Hid (OwZ v.heap.size ((w1.setCell ⟨w.heap.size+1,0,none⟩ (.slice x1 1 y1)).setCell ⟨w.heap.size+1,1,none⟩ (.slice x2 k y2)) (.slice a 1 c) [(n:Int)]):=ownsRow_setCell_below (ownsRow_setCell_below HR.out (a:=⟨w.heap.size+1,0,none⟩) (show w.heap.size+1<v.heap.size by omega) (.slice x1 1 y1)) (a:=⟨w.heap.size+1,1,none⟩) (show w.heap.size+1<v.heap.size by omega) (.slice x2 k y2);have s3:((w1.setCell ⟨w.heap.size+1,0,none⟩ (.slice x1 1 y1)).setCell ⟨w.heap.size+1,1,none⟩ (.slice x2 k y2)).heap.size=w1.heap.size:=by rw [set1_size,set1_size]
 rw [hw3] at X3 R3 kw3 HR3 s3 ⊢;clear hw3 X2 R2 kw1 z0 z1 f0 f1;obtain ⟨g,rfl,hgv⟩:=one_form HR3.out;have C2:=steps_any (w:=w3) (x1:=x1) (y1:=y1) (sh:=[(L:Int)]) (D:=D) (by have h:=HA.out.1;rw [HNS.out] at h;exact h.imp (fun _ h=>h) (Agree.of kw3 HD.out)) (fun g hg=>by have:=HD.out g hg;omega) (shOK_vec HNS.out HM.out);simp only [List.length_singleton] at C2;rw [stepE_one] at C2;refine C2.mono ?_;rintro e w4 ⟨w2,rfl,q2,ho⟩;clear C2;obtain ⟨vs,hvl,hbx,hbel,hrow,_⟩:=ho;obtain ⟨a3,c3,hv0,hrd⟩:=hrow 0 (by omega);have hrd2:RdN (fun g=>w2.heap.size<g∧g<w4.heap.size) w4 (.slice a3 (upZ L).length c3) (upZ L):=hrd;have hvs:vs.toArray=#[.slice a3 (upZ L).length c3]:=by
  match vs,hvl with
  | [u],_ => 
   have:u=.slice a3 (upZ L).length c3:=by simpa using hv0
   rw [this]
 rw [hvs] at hbx;have HRD:Hid (RdN (fun g=>w2.heap.size<g∧g<w4.heap.size) w4 (.slice a3 (upZ L).length c3) (upZ L)):=hrd2;clear hrow hrd hrd2 hv0 hvs hvl;have sq2:=q2.size;have s4:=hbel.size;have kw4:=(kw3.trans (q2.mono (by omega))).trans (hbel.mono (by omega));have k34:Below w3.heap.size w3 w4:=q2.trans (hbel.mono (by omega));have X4:=X3.below k34 (by omega);have R4:=R3.below k34 (by omega);have HR4:Hid (OwZ v.heap.size w4 (.slice (some ⟨g,0,none⟩) 1 c) [(n:Int)]):=OwZ.below HR3.out k34 (by omega);clear X3 R3 HR3 q2 hbel
 go_wp2_with fail
 obtain ⟨ro,hro⟩:∃ ro,upZ L=ro:=⟨_,rfl⟩;have HRO:Hid (upZ L=ro):=hro;rw [hro] at hbx HRD;clear hro;obtain ⟨B,hB⟩:∃ B,w2.heap.size=B:=⟨_,rfl⟩;have HB:Hid (w2.heap.size=B):=hB;have hBv:w3.heap.size≤B:=by omega
 have hBl:B<w4.heap.size:=by have:=hbx.lt;omega
 rw [hB] at hbx ⊢;clear hB
 go_loopw [27] (fun iv wr=>∃ (i:Nat),iv=.int .i64 i∧i≤1∧Hid (i=0→wr=w4)∧Hid (i=1→Rows2 (fun g=>w2.heap.size≤g∧g<wr.heap.size) wr (some ⟨w2.heap.size,0,none⟩) 1 [ro.drop n])∧BoxA wr (w.heap.size+1) 25 #[.slice x1 1 y1,.slice x2 k y2]∧BoxA wr (w.heap.size+1+1) 25 #[.slice none 0 0,.slice none 0 0]∧Below w.heap.size w wr) (fun iv _=>1 - (intOf iv).toNat)
 case atStart=>exact ⟨0,rfl,by omega,fun _=>rfl,fun h=>absurd h (by decide),X4,R4,kw4⟩
 case round=>
  obtain ⟨i,rfl,hi,H0,H1,X5,R5,kr⟩:=hrel;have sr:=kr.size;by_cases hlt:i<1
  · obtain rfl:i=0:=by omega
    obtain rfl:=H0.out rfl;have e0:wr.cell? ⟨g,0,none⟩=some (.int .i64 (n:Int)):=World.ownsRow.cellAt HR4.out 0 (by omega);have e1:=hbx.cell 0 rfl;have C3:=dropOf_any HRD.out (show n≤1000000 by omega)
    go_wp2_with fail
    refine C3.mono ?_;rintro e w5 ⟨a5,c5,rfl,hd,k5⟩;have HDR:Hid (RdN (fun g=>w2.heap.size<g∧g<wr.heap.size) w5 (.slice a5 (ro.drop n).length c5) (ro.drop n)):=hd;clear C3 hd;have s5:=k5.size;have BX5:=hbx.below k5 (by omega);have g0:=BX5.frozen 0;have g1:=BX5.cell 0 rfl
    go_wp2_with fail
    have hB:=HB.out;subst hB;rw [← List.length_drop];have hput:=rows_put (a:=a5) (c:=c5) (l:=ro.drop n) BX5 (HDR.out.imp (fun g hg=>⟨hg.1,by have:=hg.2;omega⟩) (fun _ _=>rfl));have ss:(w5.setCell ⟨w2.heap.size,0,none⟩ (.slice a5 (ro.drop n).length c5)).heap.size=w5.heap.size:=set1_size _
    go_roundw
    case rel=>
     refine ⟨1,rfl,by omega,fun h=>absurd h (by decide),fun _=>by rw [ss];exact hput,boxA_o (X5.below k5 (by omega)) (p:=⟨w2.heap.size,0,none⟩) (show w2.heap.size≠w.heap.size+1 by omega) _,boxA_o (R5.below k5 (by omega)) (p:=⟨w2.heap.size,0,none⟩) (show w2.heap.size≠w.heap.size+1+1 by omega) _,(kr.trans (k5.mono (by omega))).setCell (p:=⟨w2.heap.size,0,none⟩) (show w.heap.size≤w2.heap.size by omega) _⟩
    case measure=>simp [intOf]
  · obtain rfl:i=1:=by omega
    have z0:=X5.cell 0 rfl;have z1:=X5.cell 1 rfl
    go_wp2_with fail
    have hB:=HB.out;subst hB;have C4:=selected_drop (w:=wr) (D:=fun g=>g<wr.heap.size) (f:=f) (x1:=x1) (y1:=y1) (x2:=x2) (y2:=y2) (t:=t) (n:=n) (L:=L) (b:=some ⟨w2.heap.size,0,none⟩) (c:=1) (fun g hg=>hg) (ArV.imp (fun g hg=>by have:=HD.out g hg;omega) (Agree.of kr HD.out) (f+1) (f+1) _ _ _ (Nat.le_refl _) HA.out) HM.out HNS.out (by rw [HRO.out];exact (H1.out (by first | rfl | trivial)).imp (fun g hg=>hg.2) (fun _ _=>rfl))
    rw [HK.out] at C4;refine C4.mono ?_;rintro e w6 ⟨z1',u1,z2',u2,rfl,hv,q6⟩;obtain ⟨m,hmm⟩:∃ m,(dropT n t).kids.length=m:=⟨_,rfl⟩;have HMM:Hid ((dropT n t).kids.length=m):=hmm;rw [hmm] at hv ⊢;have HV:Hid (ArV (f+1) (Fr wr.heap.size w6.heap.size) w6 (.slice z1' 1 u1) (.slice z2' m u2) (dropT n t)):=hv;clear C4 hv hmm z0 z1;have s6:=q6.size;have R6:=R5.below q6 (by have:=R5.lt;omega);have kz:=kr.trans (q6.mono (by omega));have r0:=R6.cell 0 rfl;have r1:=R6.cell 1 rfl;have f0:=R6.frozen 0;have f1:=R6.frozen 1;have Rd:=R6.set2 (.slice z1' 1 u1) (.slice z2' m u2);have w0':=Rd.cell 0 rfl;have w1':=Rd.cell 1 rfl;have hR6:=R6.lt;go_wp2
    try simp only [Exit.inBlock,Exit.then]
    refine bodyPost_ret (v:=.tuple #[.agg #[.slice z1' 1 u1,.slice z2' m u2],.int .i64 0]) ?_ rfl ?_
    · simp [results,Tryz.results59,go_sem,w0',w1']
    rw [HMM.out];refine ⟨z1',u1,z2',u2,rfl,?_,Below.set2 kz (by omega) _ _⟩;refine ArV.imp ?_ ?_ (f+1) (f+1) _ _ _ (Nat.le_refl _) HV.out
    · rintro q ⟨h1,h2⟩
      exact ⟨by omega,by rw [set1_size,set1_size];exact h2⟩
    · rintro q ⟨h1,h2⟩
      have hR5:=R5.lt;rw [set1_other (by show ¬ w.heap.size+1+1=q;omega),set1_other (by show ¬ w.heap.size+1+1=q;omega)]
end
end Go.Proofs.YtheaeggecpfcbaaGreat
