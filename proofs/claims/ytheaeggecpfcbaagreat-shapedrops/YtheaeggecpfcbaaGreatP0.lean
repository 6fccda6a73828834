/- An array among the arguments: it is some tree, in blocks of the world. -/
import Derived.Test.YtheaeggecpfcbaaGreatRows
import Derived.Test.YtheaeggecpfcbaaGreatK7
import Derived.Lib.SmallJoins
import Derived.OpenShut
import Derived.ChangeSlices
import Derived.WalkKit
set_option maxRecDepth 100000
set_option linter.unusedVariables false
set_option linter.unusedSimpArgs false
namespace Go.Proofs.YtheaeggecpfcbaaGreat
open Go.ChangeShapes Go.WideShapes Go.ChangeAt Go.RowKit Go.Joins
theorem cellsA_int:Tryz.prog.cellsOf 3=1:=by kernel_rfl
theorem cellsA_u32:Tryz.prog.cellsOf 92=1:=by kernel_rfl
theorem cellsA_arr:Tryz.prog.cellsOf 25=2:=by kernel_rfl
theorem cellsA_item:Tryz.prog.cellsOf 68=6:=by kernel_rfl
theorem cellsA_rat:Tryz.prog.cellsOf 34=3:=by kernel_rfl
theorem cellsA_kind:Tryz.prog.cellsOf 65=1:=by kernel_rfl
theorem cellsA_i32:Tryz.prog.cellsOf 21=1:=by kernel_rfl
theorem cellsA_bool:Tryz.prog.cellsOf 4=1:=by kernel_rfl
theorem cellsA_box:Tryz.prog.cellsOf 66=1:=by kernel_rfl
theorem cellsA_limbs:Tryz.prog.cellsOf 32=1:=by kernel_rfl
theorem cellsA_ints:Tryz.prog.cellsOf 23=1:=by kernel_rfl
theorem cellsA_items:Tryz.prog.cellsOf 22=1:=by kernel_rfl
theorem lt_of_cellA {w:World} {b off:Nat} {v:Value} (h:w.cell? ⟨b,off,none⟩=some v):b<w.heap.size:=by
 rcases Nat.lt_or_ge b w.heap.size with h' | h'
 · exact h'
 · simp [World.cell?,Array.getElem?_eq_none h'] at h
/-- No slice in it is longer than memory may be. -/
def okW {H:Type} (t:TypeId) (d:DataW H):Prop:=∀ x∈d.weights Tryz.prog t,x≤reachBytes
theorem weights_mem {H:Type} {P:Program} {e:TypeId}:∀ (l:List (DataW H)) (d:DataW H),d∈l→∀ x∈d.weights P e,x∈DataW.weightsAll P e l
 | c :: r,d,h,x,hx=>by
  rw [DataW.weightsAll];rcases List.mem_cons.1 h with rfl | h
  · exact List.mem_append_left _ hx
  · exact List.mem_append_right _ (weights_mem r d h x hx)
theorem okW_slice {H:Type} {ts e:TypeId} (ht:Tryz.prog.underlying ts=some (.slice e)) {el sp:List (DataW H)} (h:okW ts (DataW.slice el sp)):(el.length+sp.length)*Tryz.prog.bytesOf e≤reachBytes∧∀ d∈el,okW e d:=by
 unfold okW at h;rw [DataW.weights,ht] at h;exact ⟨h _ (List.mem_cons_self ..),fun d hd x hx=>h x (List.mem_cons_of_mem _ (List.mem_append_left _ (weights_mem el d hd x hx)))⟩
theorem okW_agg {H:Type} {ts:TypeId} {fs:Array Field} (ht:Tryz.prog.underlying ts=some (.struct fs)) {l:List (DataW H)} (h:okW ts (DataW.agg l)):∀ x∈DataW.weightsEach Tryz.prog (fs.toList.map (·.type)) l,x≤reachBytes:=by
 unfold okW at h;rw [DataW.weights,ht] at h;exact h
theorem bytesA_int:Tryz.prog.bytesOf 3=8:=by kernel_rfl
theorem bytesA_u32:Tryz.prog.bytesOf 92=4:=by kernel_rfl
theorem bytesA_arr:Tryz.prog.bytesOf 25=48:=by kernel_rfl
theorem bytesA_item:Tryz.prog.bytesOf 68=96:=by kernel_rfl
theorem choose_trees {P:Nat→Tr→Prop}:∀ n,(∀ i,i<n→∃ x,P i x)→∃ l:List Tr,l.length=n∧∀ i,i<n→P i (l.getD i tr0)
 | 0,_=>⟨[],rfl,fun i hi=>by omega⟩
 | n+1,h=>by
  obtain ⟨l,hl,hp⟩:=choose_trees n (fun i hi=>h i (by omega));obtain ⟨x,hx⟩:=h n (by omega);refine ⟨l++[x],by simp [hl],fun i hi => ?_⟩;by_cases hin:i<n
  · have:=hp i hin
    rw [List.getD_eq_getElem?_getD] at this ⊢;rw [List.getElem?_append_left (by omega)];exact this
  · obtain rfl:i=n:=by omega
    rw [List.getD_eq_getElem?_getD,List.getElem?_append_right (by omega),hl];simpa using hx
section
variable {H:Type} {enc:TypeId×Value→H} {W:World}
/-- Lengths. -/
theorem ints_rdN {v:Value} {y:DataW H×List MemPlace} {fuel:Nat} (hf:DataW.trod enc Tryz.prog W 0 (fun _=>true) true fuel 23 [v]=some y):∃ a xs c,v=.slice a xs.length c∧RdN (· < W.heap.size) W (.slice a xs.length c) xs∧(okW 23 y.1→xs.length*8≤140737488355328):=by
 rcases open_ints Tryz.underlying23 Tryz.underlying3 cellsA_int hf with ⟨hcs,hx⟩ | ⟨a,len',cap',zs,hcs,_,hl,hm,hz,hx,hcell,hwz⟩
 · have hv:v=.slice none 0 0:=by simpa using hcs
   subst hv;exact ⟨none,[],0,rfl,⟨(fun x h=>by cases h),none,0,rfl,Nat.le_refl _,by omega,fun _=>rfl,Or.inl rfl⟩,fun _=>by simp⟩
 · have hv:v=.slice (some a) len' cap':=by simpa using hcs
   subst hv;simp only [if_true] at hz;have hlen:(zs.take len').length=len':=by simp;omega
   refine ⟨some a,zs.take len',cap',by rw [hlen],⟨fun x hx=>bounds_i64 (hwz x (List.mem_of_mem_take hx)),some a,cap',rfl,by omega,by unfold maxLen at hm;omega,(fun h=>by cases h),?_⟩,?_⟩
   · by_cases h0:len'=0
     · exact Or.inl (by omega)
     · obtain ⟨b,off,spot⟩:=a
       have hspot:spot=none:=by simpa [Addr.add] using World.cell?_spot (hcell 0 (by omega))
       subst hspot;have hc0:=hcell 0 (by omega);rw [Lib.add_plain] at hc0;refine Or.inr ⟨b,off,rfl,lt_of_cellA hc0,fun j hj => ?_⟩;rw [hlen] at hj;have:=hcell j (by omega);rw [Lib.add_plain] at this;rw [this];have:(zs.take len').getD j 0=zs.getD j 0:=by simp only [List.getD,List.getElem?_take];rw [if_pos (by omega)]
       rw [this]
   · rw [hx]
     intro hw;have h1:=(okW_slice Tryz.underlying23 hw).1;have e:(lits (H:=H) .i64 (zs.take len')).length=len':=by simp [lits,hlen];omega
     rw [e,bytesA_int] at h1;unfold reachBytes at h1;rw [hlen];omega
/-- Limbs. -/
theorem limbs_rdL {v:Value} {y:DataW H×List MemPlace} {fuel:Nat} (hf:DataW.trod enc Tryz.prog W 0 (fun _=>true) true fuel 32 [v]=some y):∃ a xs c,v=.slice a xs.length c∧RdL (· < W.heap.size) W (.slice a xs.length c) xs∧(okW 32 y.1→xs.length*4≤140737488355328):=by
 rcases open_ints Tryz.underlying32 Tryz.underlying92 cellsA_u32 hf with ⟨hcs,hx⟩ | ⟨a,len',cap',zs,hcs,_,hl,hm,hz,hx,hcell,hwz⟩
 · have hv:v=.slice none 0 0:=by simpa using hcs
   subst hv;exact ⟨none,[],0,rfl,⟨lim_nil,none,0,rfl,Nat.le_refl _,by omega,fun _=>rfl,Or.inl rfl⟩,fun _=>by simp⟩
 · have hv:v=.slice (some a) len' cap':=by simpa using hcs
   subst hv;simp only [if_true] at hz;have hlen:(zs.take len').length=len':=by simp;omega
   refine ⟨some a,zs.take len',cap',by rw [hlen],⟨fun x hx => ?_,some a,cap',rfl,by omega,by unfold maxLen at hm;omega,(fun h=>by cases h),?_⟩,?_⟩
   · have:=bounds_u32 (hwz x (List.mem_of_mem_take hx));omega
   · by_cases h0:len'=0
     · exact Or.inl (by omega)
     · obtain ⟨b,off,spot⟩:=a
       have hspot:spot=none:=by simpa [Addr.add] using World.cell?_spot (hcell 0 (by omega))
       subst hspot;have hc0:=hcell 0 (by omega);rw [Lib.add_plain] at hc0;refine Or.inr ⟨b,off,rfl,lt_of_cellA hc0,fun j hj => ?_⟩;rw [hlen] at hj;have:=hcell j (by omega);rw [Lib.add_plain] at this;rw [this];have:(zs.take len').getD j 0=zs.getD j 0:=by simp only [List.getD,List.getElem?_take];rw [if_pos (by omega)]
       rw [this]
   · rw [hx]
     intro hw;have h1:=(okW_slice Tryz.underlying32 hw).1;have e:(lits (H:=H) .u32 (zs.take len')).length=len':=by simp [lits,hlen];omega
     rw [e,bytesA_u32] at h1;unfold reachBytes at h1;rw [hlen];omega
/-- A slice whose elements are trees. -/
theorem slice_trees {ts e sz:Nat} (ht:Tryz.prog.underlying ts=some (.slice e)) (hc:Tryz.prog.cellsOf e=sz) (hsz:0<sz) {fuel:Nat} {v:Value} {y:DataW H×List MemPlace} (h:DataW.trod enc Tryz.prog W 0 (fun _=>true) true fuel ts [v]=some y) {Q:DataW H→(Nat→Option Value)→Tr→Prop}
    (hQ:∀ n cs z,n<fuel→DataW.trod enc Tryz.prog W 0 (fun _=>true) true n e cs=some z→cs.length=sz→∃ x,Q z.1 (fun k=>cs[k]?) x) :
    ∃ a c l,v=.slice a (List.length l) c∧RowB (· < W.heap.size) l.length (.slice a l.length c) (fun g o j=>∃ d cs,(∀ k,k<sz→cs k=W.cell? ⟨g,o+j*sz+k,none⟩)∧Q d cs (l.getD j tr0))∧(∀ j,j<l.length→∃ d cs,(okW ts y.1→okW e d)∧Q d cs (l.getD j tr0))∧(okW ts y.1→l.length*Tryz.prog.bytesOf e≤140737488355328):=by
 rcases DataW.trod_slice ht h with ⟨hcs,rfl⟩ | ⟨a,len,cap,elems,rest,n,rfl,hcs,rfl,hb,hl,hm,hlen,hel,hsp,hns⟩
 · have hv:v=.slice none 0 0:=by simpa using hcs
   subst hv;exact ⟨none,0,[],rfl,⟨none,0,rfl,Nat.le_refl _,by simp,fun _=>rfl,Or.inl rfl⟩,fun j hj=>by simp at hj,fun _=>by simp⟩
 · have hv:v=.slice (some a) len cap:=by simpa using hcs
   subst hv;rw [hc] at hel;have hP:∀ i,i<len→∃ x,∃ d cs,d∈elems.map (·.1)∧(∀ k,k<sz→cs k=W.cell? ((a.add (i*sz)).add k))∧Q d cs x:=by
    intro i hi;have e1:=hel i hi;have hi':i<elems.length:=by omega
    rw [List.getElem?_eq_getElem hi'] at e1;obtain ⟨cs,c1,c2⟩:=Option.bind_eq_some_iff.1 e1;obtain ⟨_,c3,c4⟩:=World.cells?_some c1;obtain ⟨x,hx⟩:=hQ n cs elems[i] (by omega) c2 c3;exact ⟨x,_,_,List.mem_map.2 ⟨_,List.getElem_mem hi',rfl⟩,fun k hk=>(c4 k hk).symm,hx⟩
   obtain ⟨l,hll,hl2⟩:=choose_trees len hP;refine ⟨some a,cap,l,by rw [hll],⟨some a,cap,rfl,by omega,by unfold maxLen at hm;omega,(fun h=>by cases h),?_⟩,?_,?_⟩
   · by_cases h0:len=0
     · exact Or.inl (by omega)
     · obtain ⟨b,off,spot⟩:=a
       obtain ⟨d,cs,_,hk,hq⟩:=hl2 0 (by omega);have e1:=hel 0 (by omega);have hi':0<elems.length:=by omega
       rw [List.getElem?_eq_getElem hi'] at e1;obtain ⟨cs',c1,c2⟩:=Option.bind_eq_some_iff.1 e1;obtain ⟨_,c3,c4⟩:=World.cells?_some c1;have c5:=c4 0 hsz;have c6:cs'[0]? = some (cs'[0]'(by omega)):=List.getElem?_eq_getElem (by omega);rw [c6] at c5;have hspot:spot=none:=by simpa [Addr.add] using World.cell?_spot c5
       subst hspot;rw [Lib.add_plain,Lib.add_plain] at c5;refine Or.inr ⟨b,off,rfl,lt_of_cellA c5,fun j hj => ?_⟩;rw [hll] at hj;obtain ⟨d,cs,_,hk,hq⟩:=hl2 j hj;refine ⟨d,cs,fun k hk' => ?_,hq⟩;have:=hk k hk';rw [Lib.add_plain,Lib.add_plain] at this;exact this
   · intro j hj
     rw [hll] at hj;obtain ⟨d,cs,hd,_,hq⟩:=hl2 j hj;exact ⟨d,cs,fun hw=>(okW_slice ht hw).2 d hd,hq⟩
   · rw [hll]
     intro hw;have h1:=(okW_slice ht hw).1;rw [List.length_map,hlen] at h1;unfold reachBytes at h1;have h2:len*Tryz.prog.bytesOf e≤(len+(rest.map (·.1)).length)*Tryz.prog.bytesOf e:=Nat.mul_le_mul_right _ (by omega);omega
/-- What an item's cells are. -/
def ItemQ (W:World) (F:Nat) (H:Type) (d:DataW H) (c:Nat→Option Value) (x:Tr):Prop:=
 ∃ a1 c1 a2 c2 a3 c3,(c 0=some (.int .u8 x.k)∧c 1=some (.bool x.b)∧c 2=some (.slice a1 x.ns.length c1)∧c 3=some (.slice a2 x.ds.length c2)∧c 4=some (.int .i32 x.c)∧c 5=some (.slice a3 x.kids.length c3))∧ItV (ArV F (· < W.heap.size) W) (· < W.heap.size) W a1 c1 a2 c2 a3 c3 x∧(okW 68 d→smI F x)∧(0≤x.k∧x.k≤255)∧(-2147483648≤x.c∧x.c≤2147483647)
/-- What an array's cells are. -/
def ArrQ (W:World) (F:Nat) (H:Type) (d:DataW H) (c:Nat→Option Value) (t:Tr):Prop:=
 ∃ x1 n1 c1 x2 n2 c2,c 0=some (.slice x1 n1 c1)∧c 1=some (.slice x2 n2 c2)∧ArV F (· < W.heap.size) W (.slice x1 n1 c1) (.slice x2 n2 c2) t∧(okW 25 d→smF F t)
theorem cells6 {cs:List Value} (h:cs.length=6):∃ u0 u1 u2 u3 u4 u5,cs=[u0,u1,u2,u3,u4,u5]:=by
 match cs,h with
 | [u0,u1,u2,u3,u4,u5],_=>exact ⟨_,_,_,_,_,_,rfl⟩
theorem cells2 {cs:List Value} (h:cs.length=2):∃ u0 u1,cs=[u0,u1]:=by
 match cs,h with
 | [u0,u1],_=>exact ⟨_,_,rfl⟩
theorem item_trod {fuel F:Nat} {cs:List Value} {y:DataW H×List MemPlace} (hIH:∀ q cs z,q<fuel→q≤F→DataW.trod enc Tryz.prog W 0 (fun _=>true) true q 25 cs=some z→cs.length=2→∃ t,ArrQ W F H z.1 (fun k=>cs[k]?) t) (hF:fuel≤F+2)
    (h:DataW.trod enc Tryz.prog W 0 (fun _=>true) true fuel 68 cs=some y) (hl:cs.length=6):∃ x,ItemQ W F H y.1 (fun k=>cs[k]?) x:=by
 obtain ⟨u0,u1,u2,u3,u4,u5,rfl⟩:=cells6 hl;obtain ⟨xs,n,rfl,rfl,_,hxl,hfs⟩:=DataW.trod_struct Tryz.underlying68 h
 match xs,hxl with
 | [y0,y1,y2,y3],_=>
  have h0:=hfs 0 _ rfl;change DataW.trod enc Tryz.prog W 0 (fun _=>true) true n 65 (([u0,u1,u2,u3,u4,u5].drop 0).take (Tryz.prog.cellsOf 65))=some y0 at h0;rw [cellsA_kind] at h0;have h1:=hfs 1 _ rfl;change DataW.trod enc Tryz.prog W 0 (fun _=>true) true n 34 (([u0,u1,u2,u3,u4,u5].drop 1).take (Tryz.prog.cellsOf 34))=some y1 at h1;rw [cellsA_rat] at h1;have h2:=hfs 2 _ rfl;change DataW.trod enc Tryz.prog W 0 (fun _=>true) true n 21 (([u0,u1,u2,u3,u4,u5].drop 4).take (Tryz.prog.cellsOf 21))=some y2 at h2;rw [cellsA_i32] at h2;have h3:=hfs 3 _ rfl;change DataW.trod enc Tryz.prog W 0 (fun _=>true) true n 66 (([u0,u1,u2,u3,u4,u5].drop 5).take (Tryz.prog.cellsOf 66))=some y3 at h3;rw [cellsA_box] at h3;change DataW.trod enc Tryz.prog W 0 (fun _=>true) true n 65 [u0]=some y0 at h0;change DataW.trod enc Tryz.prog W 0 (fun _=>true) true n 34 [u1,u2,u3]=some y1 at h1;change DataW.trod enc Tryz.prog W 0 (fun _=>true) true n 21 [u4]=some y2 at h2;change DataW.trod enc Tryz.prog W 0 (fun _=>true) true n 66 [u5]=some y3 at h3;clear hfs;obtain ⟨k,hk,_,hkw⟩:=DataW.trod_int Tryz.underlying65 h0;obtain rfl:u0=.int .u8 k:=by simpa using hk
  obtain ⟨c,hc,_,hcw⟩:=DataW.trod_int Tryz.underlying21 h2;obtain rfl:u4=.int .i32 c:=by simpa using hc
  obtain ⟨zs,m,rfl,rfl,_,hzl,hgs⟩:=DataW.trod_struct Tryz.underlying34 h1
  match zs,hzl with
  | [z0,z1,z2],_=>
   have g0:=hgs 0 _ rfl;change DataW.trod enc Tryz.prog W 0 (fun _=>true) true m 4 (([u1,u2,u3].drop 0).take (Tryz.prog.cellsOf 4))=some z0 at g0;rw [cellsA_bool] at g0;have g1:=hgs 1 _ rfl;change DataW.trod enc Tryz.prog W 0 (fun _=>true) true m 32 (([u1,u2,u3].drop 1).take (Tryz.prog.cellsOf 32))=some z1 at g1;rw [cellsA_limbs] at g1;have g2:=hgs 2 _ rfl;change DataW.trod enc Tryz.prog W 0 (fun _=>true) true m 32 (([u1,u2,u3].drop 2).take (Tryz.prog.cellsOf 32))=some z2 at g2;rw [cellsA_limbs] at g2;change DataW.trod enc Tryz.prog W 0 (fun _=>true) true m 4 [u1]=some z0 at g0;change DataW.trod enc Tryz.prog W 0 (fun _=>true) true m 32 [u2]=some z1 at g1;change DataW.trod enc Tryz.prog W 0 (fun _=>true) true m 32 [u3]=some z2 at g2;clear hgs;obtain ⟨b,hb,_⟩:=DataW.trod_bool Tryz.underlying4 g0;obtain rfl:u1=.bool b:=by simpa using hb
   obtain ⟨a1,ns,c1,rfl,r1,l1⟩:=limbs_rdL g1;obtain ⟨a2,ds,c2,rfl,r2,l2⟩:=limbs_rdL g2;obtain ⟨a3,c3,l,rfl,r3,r4,l3⟩:=slice_trees (Q:=ArrQ W F H) Tryz.underlying66 cellsA_arr (by omega) h3 (fun q cs z hq hz hzl=>hIH q cs z (by omega) (by omega) hz hzl);have bk:=bounds_u8 hkw;have bc:=bounds_i32 hcw;refine ⟨.mk k b ns ds c l,a1,c1,a2,c2,a3,c3,⟨rfl,rfl,rfl,rfl,rfl,rfl⟩,⟨r1,r2,r3.imp (fun _ h=>h) ?_⟩,?_,by simpa [Tr.k] using bk,by simpa [Tr.c] using bc⟩
   · rintro g o j hg hj ⟨d,cs,hcs,x1,n1,k1,x2,n2,k2,e1,e2,e3,_⟩
     exact ⟨x1,n1,k1,x2,n2,k2,(hcs 0 (by omega)).symm.trans e1,(hcs 1 (by omega)).symm.trans e2,e3⟩
   · intro hB
     have hw:=okW_agg Tryz.underlying68 hB;have w1:okW 34 (DataW.agg [z0.1,z1.1,z2.1]):=fun q hq=>hw q (List.mem_append_right _ (List.mem_append_left _ hq));have w3:okW 66 y3.1:=fun q hq=>hw q (List.mem_append_right _ (List.mem_append_right _ (List.mem_append_right _ (List.mem_append_left _ hq))));have hr:=okW_agg Tryz.underlying34 w1;have v1:okW 32 z1.1:=fun q hq=>hr q (List.mem_append_right _ (List.mem_append_left _ hq));have v2:okW 32 z2.1:=fun q hq=>hr q (List.mem_append_right _ (List.mem_append_right _ (List.mem_append_left _ hq)));have m3:=l3 w3;rw [bytesA_arr] at m3;refine ⟨l1 v1,l2 v2,m3,?_⟩;intro t ht;obtain ⟨j,hj,rfl⟩:=List.getElem_of_mem (show t∈l from ht);obtain ⟨d,cs,hd,x1,n1,k1,x2,n2,k2,e1,e2,e3,e4⟩:=r4 j hj;have:=e4 (hd w3)
     rwa [List.getD_eq_getElem?_getD,List.getElem?_eq_getElem hj] at this
theorem arr_trod:∀ (N fuel F:Nat) (cs:List Value) (y:DataW H×List MemPlace),fuel<N→fuel≤F→DataW.trod enc Tryz.prog W 0 (fun _=>true) true fuel 25 cs=some y→cs.length=2→∃ t,ArrQ W F H y.1 (fun k=>cs[k]?) t
 | 0,_,_,_,_,hN,_,_,_=>by omega
 | N+1,fuel,F,cs,y,hN,hF,h,hl=>by
  obtain ⟨u0,u1,rfl⟩:=cells2 hl;obtain ⟨xs,n,rfl,rfl,_,hxl,hfs⟩:=DataW.trod_struct Tryz.underlying25 h
  match xs,hxl with
  | [y0,y1],_=>
   have h0:=hfs 0 _ rfl;change DataW.trod enc Tryz.prog W 0 (fun _=>true) true n 23 (([u0,u1].drop 0).take (Tryz.prog.cellsOf 23))=some y0 at h0;rw [cellsA_ints] at h0;have h1:=hfs 1 _ rfl;change DataW.trod enc Tryz.prog W 0 (fun _=>true) true n 22 (([u0,u1].drop 1).take (Tryz.prog.cellsOf 22))=some y1 at h1;rw [cellsA_items] at h1;change DataW.trod enc Tryz.prog W 0 (fun _=>true) true n 23 [u0]=some y0 at h0;change DataW.trod enc Tryz.prog W 0 (fun _=>true) true n 22 [u1]=some y1 at h1;clear hfs;obtain ⟨F,rfl⟩:∃ F',F=F'+1:=⟨F - 1,by omega⟩;obtain ⟨a1,ns,c1,rfl,r1,l1⟩:=ints_rdN h0;obtain ⟨a2,c2,l,rfl,r3,r4,l3⟩:=slice_trees (Q:=ItemQ W F H) Tryz.underlying22 cellsA_item (by omega) h1 (fun q cs z hq hz hzl=>item_trod (fun q' cs' z' hq' hqF hz' hzl'=>arr_trod N q' F cs' z' (by omega) hqF hz' hzl') (by omega) hz hzl);refine ⟨arrT ns l,a1,_,c1,a2,_,c2,rfl,rfl,⟨r1,r3.imp (fun _ h=>h) ?_⟩,?_⟩
   · rintro g o j hg hj ⟨d,cs,hcs,b1,d1,b2,d2,b3,d3,⟨e0,e1,e2,e3,e4,e5⟩,hv,_⟩
     exact ⟨b1,d1,b2,d2,b3,d3,⟨(hcs 0 (by omega)).symm.trans e0,(hcs 1 (by omega)).symm.trans e1,(hcs 2 (by omega)).symm.trans e2,(hcs 3 (by omega)).symm.trans e3,(hcs 4 (by omega)).symm.trans e4,(hcs 5 (by omega)).symm.trans e5⟩,hv⟩
   · intro hB
     have hw:=okW_agg Tryz.underlying25 hB;have v1:okW 23 y0.1:=fun q hq=>hw q (List.mem_append_left _ hq);have w3:okW 22 y1.1:=fun q hq=>hw q (List.mem_append_right _ (List.mem_append_left _ hq));have m3:=l3 w3;rw [bytesA_item] at m3;refine ⟨l1 v1,m3,?_⟩;intro t ht;obtain ⟨j,hj,rfl⟩:=List.getElem_of_mem (show t∈l from ht);obtain ⟨d,cs,hd,b1,d1,b2,d2,b3,d3,_,_,hm,_⟩:=r4 j hj;have:=hm (hd w3)
     rwa [List.getD_eq_getElem?_getD,List.getElem?_eq_getElem hj] at this
end
end Go.Proofs.YtheaeggecpfcbaaGreat
