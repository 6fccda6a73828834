/- A row of deeds among the arguments. -/
import Derived.Test.YtimfnalpmmkndaaGreatDoorFS
import Derived.Test.YtimfnalpmmkndaaGreatDoorFA
import Derived.Test.YtimfnalpmmkndaaGreatDoorRV
import Derived.Test.YtimfnalpmmkndaaGreatDoorShelf
import Derived.Lib.LaidU8T
set_option maxRecDepth 100000
set_option linter.unusedVariables false
set_option linter.unusedSimpArgs false
namespace Go.Proofs.YtimfnalpmmkndaaGreatDoor
variable {fuel:Nat}
section
open Go.ChangeShapes Go.WideShapes Go.ChangeAt Go.RowKit Go.Joins
theorem cellsD_deed:Tryz.prog.cellsOf 38=14:=by kernel_rfl
theorem cellsD_fn:Tryz.prog.cellsOf 36=9:=by kernel_rfl
theorem cellsD_strs:Tryz.prog.cellsOf 25=1:=by kernel_rfl
theorem bytesD_str:Tryz.prog.bytesOf 9=16:=by kernel_rfl
theorem choose_deeds {α:Type} (z:α) {P:Nat→α→Prop}:∀ n,(∀ i,i<n→∃ x,P i x)→∃ l:List α,l.length=n∧∀ i,i<n→P i (l.getD i z)
 | 0,_=>⟨[],rfl,fun i hi=>by omega⟩
 | n+1,h=>by
  obtain ⟨l,hl,hp⟩:=choose_deeds z n (fun i hi=>h i (by omega));obtain ⟨x,hx⟩:=h n (by omega);refine ⟨l++[x],by simp [hl],fun i hi => ?_⟩;by_cases hin:i<n
  · have:=hp i hin
    rw [List.getD_eq_getElem?_getD] at this ⊢;rw [List.getElem?_append_left (by omega)];exact this
  · obtain rfl:i=n:=by omega
    rw [List.getD_eq_getElem?_getD,List.getElem?_append_right (by omega),hl];simpa using hx
section
variable {H:Type} {enc:TypeId×Value→H} {W:World}
theorem strs_rdT {v:Value} {y:DataW H×List MemPlace} (hf:DataW.trod enc Tryz.prog W 0 (fun _=>true) true fuel 25 [v]=some y):∃ a ss c,v=.slice a ss.length c∧RdT (· < W.heap.size) W (.slice a ss.length c) ss∧(∀ x∈ss,x.size≤9223372036854775807)∧(okW 25 y.1→ss.length≤8796093022208):=by
 rcases open_strings Tryz.underlying25 Tryz.underlying9 cellsStr hf with ⟨hcs,hx⟩ | ⟨a,len',cap',zs,hcs,_,hl,hm,hz,hx,hcell,hwz⟩
 · have hv:v=.slice none 0 0:=by simpa using hcs
   subst hv;exact ⟨none,[],0,rfl,rdT_nil _ _,(fun x hx=>by cases hx),fun _=>by simp⟩
 · have hv:v=.slice (some a) len' cap':=by simpa using hcs
   subst hv;simp only [if_true] at hz;have hlen:(zs.take len').length=len':=by simp;omega
   refine ⟨some a,zs.take len',cap',by rw [hlen],⟨some a,cap',rfl,by omega,by unfold maxLen at hm;omega,(fun e=>by cases e),?_⟩,(fun x hx=>by have:=hwz x (List.mem_of_mem_take hx);unfold maxLen at this;omega),?_⟩
   · by_cases h0:len'=0
     · exact Or.inl (List.eq_nil_of_length_eq_zero (by omega))
     · obtain ⟨b,off,spot⟩:=a
       have hspot:spot=none:=by simpa [Addr.add] using World.cell?_spot (hcell 0 (by omega))
       subst hspot;have hc0:=hcell 0 (by omega);rw [Lib.add_plain] at hc0;refine Or.inr ⟨b,off,rfl,lt_of_cellF hc0,fun j hj => ?_⟩;rw [hlen] at hj;have:=hcell j (by omega);rw [Lib.add_plain] at this;rw [this];have:(zs.take len').getD j noT=zs.getD j ByteArray.empty:=by
        simp only [List.getD_eq_getElem?_getD,List.getElem?_take,if_pos hj];rw [List.getElem?_eq_getElem (by omega)];rfl
       rw [this]
   · rw [hx]
     intro hw;have h1:=(okW_slice Tryz.underlying25 hw).1;rw [bytesD_str] at h1;unfold reachBytes at h1;rw [hlen];simp [strs] at h1;omega
def DQ (W:World) (F:Nat) (H:Type) (d:DataW H) (c:Nat→Option Value) (x:Dd):Prop:=∃ v:DV,(∀ k,k<14→c k=v.cells[k]?)∧(okW 38 d→DdIs F (· < W.heap.size) W v x)
theorem cells14L {cs:List Value} (h:cs.length=14):∃ u0 u1 u2 u3 u4 u5 u6 u7 u8 u9 u10 u11 u12 u13,cs=[u0,u1,u2,u3,u4,u5,u6,u7,u8,u9,u10,u11,u12,u13]:=by
 match cs,h with
 | [u0,u1,u2,u3,u4,u5,u6,u7,u8,u9,u10,u11,u12,u13],_=>exact ⟨_,_,_,_,_,_,_,_,_,_,_,_,_,_,rfl⟩
theorem cellsD_str:Tryz.prog.cellsOf 9=1:=by kernel_rfl
theorem fn_trod {u0 u1 u2 u3 u4 u5 u6 u7 u8:Value} {y:DataW H×List MemPlace} (h:DataW.trod enc Tryz.prog W 0 (fun _=>true) true fuel 36 [u0,u1,u2,u3,u4,u5,u6,u7,u8]=some y) :
    ∃ s1 s2 s3 s4 b1 l1 z1 b2 l2 z2 b3 l3 z3 b4 l4 z4 br,u0=.string s1∧u1=.string s2∧u2=.string s3∧u3=.string s4∧u4=.slice b1 (List.length l1) z1∧u5=.slice b2 (List.length l2) z2∧u6=.slice b3 (List.length l3) z3∧u7=.slice b4 (List.length l4) z4∧u8=.bool br∧Lists4 (· < W.heap.size) W b1 b2 b3 b4 z1 z2 z3 z4 l1 l2 l3 l4∧s1.size≤9223372036854775807 ∧
     (okW 36 y.1→l1.length≤8796093022208∧l2.length≤8796093022208∧l3.length≤17592186044416∧l4.length≤8796093022208):=by
 obtain ⟨xs,n,rfl,rfl,_,hxl,hfs⟩:=DataW.trod_struct Tryz.underlying36 h
 match xs,hxl with
 | [y0,y1,y2,y3,y4,y5,y6,y7,y8],_=>
  have h0:=hfs 0 _ rfl;change DataW.trod enc Tryz.prog W 0 (fun _=>true) true n 9 (([u0,u1,u2,u3,u4,u5,u6,u7,u8].drop 0).take (Tryz.prog.cellsOf 9))=some y0 at h0;rw [cellsD_str] at h0;have h1:=hfs 1 _ rfl;change DataW.trod enc Tryz.prog W 0 (fun _=>true) true n 9 (([u0,u1,u2,u3,u4,u5,u6,u7,u8].drop 1).take (Tryz.prog.cellsOf 9))=some y1 at h1;rw [cellsD_str] at h1;have h2:=hfs 2 _ rfl;change DataW.trod enc Tryz.prog W 0 (fun _=>true) true n 9 (([u0,u1,u2,u3,u4,u5,u6,u7,u8].drop 2).take (Tryz.prog.cellsOf 9))=some y2 at h2;rw [cellsD_str] at h2;have h3:=hfs 3 _ rfl;change DataW.trod enc Tryz.prog W 0 (fun _=>true) true n 9 (([u0,u1,u2,u3,u4,u5,u6,u7,u8].drop 3).take (Tryz.prog.cellsOf 9))=some y3 at h3;rw [cellsD_str] at h3;have h4:=hfs 4 _ rfl;change DataW.trod enc Tryz.prog W 0 (fun _=>true) true n 25 (([u0,u1,u2,u3,u4,u5,u6,u7,u8].drop 4).take (Tryz.prog.cellsOf 25))=some y4 at h4;rw [cellsD_strs] at h4;have h5:=hfs 5 _ rfl;change DataW.trod enc Tryz.prog W 0 (fun _=>true) true n 25 (([u0,u1,u2,u3,u4,u5,u6,u7,u8].drop 5).take (Tryz.prog.cellsOf 25))=some y5 at h5;rw [cellsD_strs] at h5;have h6:=hfs 6 _ rfl;change DataW.trod enc Tryz.prog W 0 (fun _=>true) true n 26 (([u0,u1,u2,u3,u4,u5,u6,u7,u8].drop 6).take (Tryz.prog.cellsOf 26))=some y6 at h6;rw [cellsA_ints] at h6;have h7:=hfs 7 _ rfl;change DataW.trod enc Tryz.prog W 0 (fun _=>true) true n 25 (([u0,u1,u2,u3,u4,u5,u6,u7,u8].drop 7).take (Tryz.prog.cellsOf 25))=some y7 at h7;rw [cellsD_strs] at h7;have h8:=hfs 8 _ rfl;change DataW.trod enc Tryz.prog W 0 (fun _=>true) true n 4 (([u0,u1,u2,u3,u4,u5,u6,u7,u8].drop 8).take (Tryz.prog.cellsOf 4))=some y8 at h8;rw [cellsA_bool] at h8;change DataW.trod enc Tryz.prog W 0 (fun _=>true) true n 9 [u0]=some y0 at h0;change DataW.trod enc Tryz.prog W 0 (fun _=>true) true n 9 [u1]=some y1 at h1;change DataW.trod enc Tryz.prog W 0 (fun _=>true) true n 9 [u2]=some y2 at h2;change DataW.trod enc Tryz.prog W 0 (fun _=>true) true n 9 [u3]=some y3 at h3;change DataW.trod enc Tryz.prog W 0 (fun _=>true) true n 25 [u4]=some y4 at h4;change DataW.trod enc Tryz.prog W 0 (fun _=>true) true n 25 [u5]=some y5 at h5;change DataW.trod enc Tryz.prog W 0 (fun _=>true) true n 26 [u6]=some y6 at h6;change DataW.trod enc Tryz.prog W 0 (fun _=>true) true n 25 [u7]=some y7 at h7;change DataW.trod enc Tryz.prog W 0 (fun _=>true) true n 4 [u8]=some y8 at h8;clear hfs;obtain ⟨s1,hs0,_,hw0⟩:=DataW.trod_string Tryz.underlying9 h0;obtain rfl:u0=.string s1:=by simpa using hs0
  obtain ⟨s2,hs1,_,hw1⟩:=DataW.trod_string Tryz.underlying9 h1;obtain rfl:u1=.string s2:=by simpa using hs1
  obtain ⟨s3,hs2,_,hw2⟩:=DataW.trod_string Tryz.underlying9 h2;obtain rfl:u2=.string s3:=by simpa using hs2
  obtain ⟨s4,hs3,_,hw3⟩:=DataW.trod_string Tryz.underlying9 h3;obtain rfl:u3=.string s4:=by simpa using hs3
  obtain ⟨b1,l1,z1,rfl,r1,_,m1⟩:=strs_rdT h4;obtain ⟨b2,l2,z2,rfl,r2,_,m2⟩:=strs_rdT h5;obtain ⟨b3,l3,z3,rfl,r3,m3⟩:=ints_rdN h6;obtain ⟨b4,l4,z4,rfl,r4,_,m4⟩:=strs_rdT h7;obtain ⟨br,hb,_⟩:=DataW.trod_bool Tryz.underlying4 h8;obtain rfl:u8=.bool br:=by simpa using hb
  refine ⟨s1,s2,s3,s4,b1,l1,z1,b2,l2,z2,b3,l3,z3,b4,l4,z4,br,rfl,rfl,rfl,rfl,rfl,rfl,rfl,rfl,rfl,⟨r1,r2,r3,r4⟩,by unfold maxLen at hw0;omega,fun hB => ?_⟩;have hw:=okW_agg Tryz.underlying36 hB;have v4:okW 25 y4.1:=fun q hq=>hw q (List.mem_append_right _ (List.mem_append_right _ (List.mem_append_right _ (List.mem_append_right _ (List.mem_append_left _ hq)))));have v5:okW 25 y5.1:=fun q hq=>hw q (List.mem_append_right _ (List.mem_append_right _ (List.mem_append_right _ (List.mem_append_right _ (List.mem_append_right _ (List.mem_append_left _ hq))))));have v6:okW 26 y6.1:=fun q hq=>hw q (List.mem_append_right _ (List.mem_append_right _ (List.mem_append_right _ (List.mem_append_right _ (List.mem_append_right _ (List.mem_append_right _ (List.mem_append_left _ hq)))))));have v7:okW 25 y7.1:=fun q hq=>hw q (List.mem_append_right _ (List.mem_append_right _ (List.mem_append_right _ (List.mem_append_right _ (List.mem_append_right _ (List.mem_append_right _ (List.mem_append_right _ (List.mem_append_left _ hq))))))));have:=m3 v6;exact ⟨m1 v4,m2 v5,by omega,m4 v7⟩
theorem deed_trod {F:Nat} {cs:List Value} {y:DataW H×List MemPlace} (hF:fuel≤F) (h:DataW.trod enc Tryz.prog W 0 (fun _=>true) true fuel 38 cs=some y) (hl:cs.length=14):∃ x,DQ W F H y.1 (fun k=>cs[k]?) x:=by
 obtain ⟨u0,u1,u2,u3,u4,u5,u6,u7,u8,u9,u10,u11,u12,u13,rfl⟩:=cells14L hl;obtain ⟨xs,n,rfl,rfl,_,hxl,hfs⟩:=DataW.trod_struct Tryz.underlying38 h
 match xs,hxl with
 | [y0,y1,y2,y3,y4],_=>
  have h0:=hfs 0 _ rfl;change DataW.trod enc Tryz.prog W 0 (fun _=>true) true n 3 (([u0,u1,u2,u3,u4,u5,u6,u7,u8,u9,u10,u11,u12,u13].drop 0).take (Tryz.prog.cellsOf 3))=some y0 at h0;rw [cellsA_int] at h0;have h1:=hfs 1 _ rfl;change DataW.trod enc Tryz.prog W 0 (fun _=>true) true n 25 (([u0,u1,u2,u3,u4,u5,u6,u7,u8,u9,u10,u11,u12,u13].drop 1).take (Tryz.prog.cellsOf 25))=some y1 at h1;rw [cellsD_strs] at h1;have h2:=hfs 2 _ rfl;change DataW.trod enc Tryz.prog W 0 (fun _=>true) true n 29 (([u0,u1,u2,u3,u4,u5,u6,u7,u8,u9,u10,u11,u12,u13].drop 2).take (Tryz.prog.cellsOf 29))=some y2 at h2;rw [cellsA_arr] at h2;have h3:=hfs 3 _ rfl;change DataW.trod enc Tryz.prog W 0 (fun _=>true) true n 36 (([u0,u1,u2,u3,u4,u5,u6,u7,u8,u9,u10,u11,u12,u13].drop 4).take (Tryz.prog.cellsOf 36))=some y3 at h3;rw [cellsD_fn] at h3;have h4:=hfs 4 _ rfl;change DataW.trod enc Tryz.prog W 0 (fun _=>true) true n 3 (([u0,u1,u2,u3,u4,u5,u6,u7,u8,u9,u10,u11,u12,u13].drop 13).take (Tryz.prog.cellsOf 3))=some y4 at h4;rw [cellsA_int] at h4;change DataW.trod enc Tryz.prog W 0 (fun _=>true) true n 3 [u0]=some y0 at h0;change DataW.trod enc Tryz.prog W 0 (fun _=>true) true n 25 [u1]=some y1 at h1;change DataW.trod enc Tryz.prog W 0 (fun _=>true) true n 29 [u2,u3]=some y2 at h2;change DataW.trod enc Tryz.prog W 0 (fun _=>true) true n 36 [u4,u5,u6,u7,u8,u9,u10,u11,u12]=some y3 at h3;change DataW.trod enc Tryz.prog W 0 (fun _=>true) true n 3 [u13]=some y4 at h4;clear hfs;obtain ⟨k,hk,_,hkw⟩:=DataW.trod_int Tryz.underlying3 h0;obtain rfl:u0=.int .i64 k:=by simpa using hk
  obtain ⟨na,ss,nc,rfl,r1,tx,m1⟩:=strs_rdT h1;obtain ⟨t,x1,n1,c1,x2,n2,c2,e1,e2,r2,m2⟩:=arr_trod (n+1) n (F+1) [u2,u3] y2 (by omega) (by omega) h2 rfl;obtain rfl:u2=.slice x1 n1 c1:=by simpa using e1
  obtain rfl:u3=.slice x2 n2 c2:=by simpa using e2
  obtain ⟨s1,s2,s3,s4,b1,l1,z1,b2,l2,z2,b3,l3,z3,b4,l4,z4,br,rfl,rfl,rfl,rfl,rfl,rfl,rfl,rfl,rfl,r3,ns,m3⟩:=fn_trod h3;obtain ⟨ln,hn,_,hnw⟩:=DataW.trod_int Tryz.underlying3 h4;obtain rfl:u13=.int .i64 ln:=by simpa using hn
  have r2c:=r2;obtain ⟨⟨_,a,cap,hv,_⟩,a2,cap2,hv2,_⟩:=r2c;obtain ⟨_,rfl,_⟩:=Value.slice.inj hv;obtain ⟨_,rfl,_⟩:=Value.slice.inj hv2;refine ⟨⟨ss,⟨k,t,s1,s2,s3,s4,l1,l2,l3,l4,br,ln⟩⟩,⟨k,na,ss.length,nc,x1,t.ns.length,c1,x2,t.kids.length,c2,s1,s2,s3,s4,b1,l1.length,z1,b2,l2.length,z2,b3,l3.length,z3,b4,l4.length,z4,br,ln⟩,fun q hq => ?_,fun hB => ?_⟩
  · match q,hq with
    | 0,_=>rfl
    | 1,_=>rfl
    | 2,_=>rfl
    | 3,_=>rfl
    | 4,_=>rfl
    | 5,_=>rfl
    | 6,_=>rfl
    | 7,_=>rfl
    | 8,_=>rfl
    | 9,_=>rfl
    | 10,_=>rfl
    | 11,_=>rfl
    | 12,_=>rfl
    | 13,_=>rfl
  · have hw:=okW_agg Tryz.underlying38 hB
    have v1:okW 25 y1.1:=fun q hq=>hw q (List.mem_append_right _ (List.mem_append_left _ hq));have v2:okW 29 y2.1:=fun q hq=>hw q (List.mem_append_right _ (List.mem_append_right _ (List.mem_append_left _ hq)));have v3:okW 36 y3.1:=fun q hq=>hw q (List.mem_append_right _ (List.mem_append_right _ (List.mem_append_right _ (List.mem_append_left _ hq))));exact ⟨⟨na,nc,x1,c1,x2,c2,b1,z1,b2,z2,b3,z3,b4,z4,rfl,r1,r2,r3⟩,m3 v3,m2 v2,tx,m1 v1,ns⟩
theorem deeds_rd {base:Nat} {v:Value} {d:DataW H} {p:List MemPlace} (hval:Value.okWide Tryz.prog W .any base 24 v) (h:DataW.Trod enc Tryz.prog W 0 (fun _=>true) true 24 v d p) (hB:okW 24 d) :
    ∃ F a L c,v=.slice a (List.length L) c∧Deeds F (· < W.heap.size) W (.slice a L.length c) L:=by
 obtain ⟨a0,len0,cap0,rfl⟩:=okWide_slice Tryz.underlying24 hval;obtain ⟨fuel,hf⟩:=h;rcases DataW.trod_slice Tryz.underlying24 hf with ⟨hcs,he⟩ | ⟨a,len,cap,elems,rest,n,rfl,hcs,he,hb,hl,hm,hlen,hel,hsp,hns⟩
 · simp [Value.cells] at hcs
   obtain ⟨rfl,rfl,rfl⟩:=hcs;exact ⟨0,none,[],0,rfl,none,0,rfl,Nat.le_refl _,by simp,fun _=>rfl,Or.inl rfl⟩
 · simp [Value.cells] at hcs
   obtain ⟨rfl,rfl,rfl⟩:=hcs;rw [cellsD_deed] at hel;obtain rfl:d=DataW.slice (elems.map (·.1)) (rest.map (·.1)):=congrArg Prod.fst he;have hw:=(okW_slice Tryz.underlying24 hB).2;have hP:∀ i,i<len0→∃ x:Dd,∃ v:DV,(∀ k,k<14→W.cell? ((a.add (i*14)).add k)=v.cells[k]?)∧DdIs n (· < W.heap.size) W v x:=by
    intro i hi;have e1:=hel i hi;have hi':i<elems.length:=by omega
    rw [List.getElem?_eq_getElem hi'] at e1;obtain ⟨cs,c1,c2⟩:=Option.bind_eq_some_iff.1 e1;obtain ⟨_,c3,c4⟩:=World.cells?_some c1;obtain ⟨x,v,h1,h2⟩:=deed_trod (F:=n) (Nat.le_refl _) c2 c3;exact ⟨x,v,fun k hk=>(c4 k hk).trans (h1 k hk),h2 (hw _ (List.mem_map.2 ⟨_,List.getElem_mem hi',rfl⟩))⟩
   obtain ⟨L,hLl,hL⟩:=choose_deeds dd0 len0 hP;refine ⟨n,some a,L,cap0,by rw [hLl],some a,cap0,rfl,by omega,by unfold maxLen at hm;omega,(fun h=>by cases h),?_⟩;by_cases h0:len0=0
   · exact Or.inl (by omega)
   · obtain ⟨b,off,spot⟩:=a
     obtain ⟨v0,hk0,_⟩:=hL 0 (by omega);have c5:=hk0 0 (by omega);have hspot:spot=none:=by simpa [Addr.add] using World.cell?_spot c5
     subst hspot;rw [Lib.add_plain,Lib.add_plain] at c5;refine Or.inr ⟨b,off,rfl,lt_of_cellA c5,fun j hj => ?_⟩;rw [hLl] at hj;obtain ⟨v,hk,hv⟩:=hL j hj;refine ⟨v,fun k hk' => ?_,hv⟩;have:=hk k hk';rw [Lib.add_plain,Lib.add_plain] at this;exact this
end
end
section
open Go.ChangeShapes Go.WideShapes Go.ChangeAt Go.RowKit
theorem tabsE {W:World} (h:laidMetH Tryz.prog [("unicode/utf8.acceptRanges",Rows.laid_unicode_utf8_acceptRanges),("unicode/utf8.first",Rows.laid_unicode_utf8_first)] W):Lib.Utf8Tabs 0 1 W:=by
 obtain ⟨ps,h1,_⟩:=h;have e1:(Rows.laid_unicode_utf8_acceptRanges:DataW Unit)=Lib.acceptData:=by kernel_rfl
 have e2:(Rows.laid_unicode_utf8_first:DataW Unit)=Lib.firstData:=by kernel_rfl
 rw [e1,e2] at h1;exact utf8Tabs_of_readsT (ρ:=Tryz.lays260_ren) (U8Types.of260 Tryz.lays260) ⟨by kernel_rfl,by kernel_rfl,by kernel_rfl,by kernel_rfl,by kernel_rfl,by kernel_rfl,by kernel_rfl⟩ (Lib.LaidVars_reads h1 _ _ (.tail _ (.head _))) (Lib.LaidVars_reads h1 _ _ (.head _))
theorem weight_first {H:Type} {t:TypeId} {ts:List TypeId} {d0:DataW H} {ds:List (DataW H)} (hsz:(DataW.weightsEach Tryz.prog (t :: ts) (d0 :: ds)).all (· ≤ reachBytes)=true):okW t d0:=by
 intro x hx;rw [List.all_eq_true] at hsz;have:=hsz x (by rw [DataW.weightsEach];exact List.mem_append_left _ hx);simpa using this
end
end Go.Proofs.YtimfnalpmmkndaaGreatDoor
