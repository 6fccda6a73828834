/- Texts, two names and an array among the arguments. -/
import Derived.Test.YtimfnalpmmkndaaGreatDoorFE
set_option maxRecDepth 100000
set_option linter.unusedVariables false
set_option linter.unusedSimpArgs false
namespace Go.Proofs.YtimfnalpmmkndaaGreatDoor
section
open Go.ChangeShapes Go.WideShapes Go.ChangeAt Go.RowKit
theorem arV_lens {f:Nat} {D:Nat→Prop} {w:World} {x1 x2:Option Addr} {n1 n2 c1 c2:Nat} {t:Tr} (h:ArV (f+1) D w (.slice x1 n1 c1) (.slice x2 n2 c2) t):n1=t.ns.length∧n2=t.kids.length:=by
 obtain ⟨⟨_,a,cap,hv,_⟩,a2,cap2,hv2,_⟩:=h;exact ⟨(Value.slice.inj hv).2.1,(Value.slice.inj hv2).2.1⟩
theorem pair_rd {H:Type} {enc:TypeId×Value→H} {W:World} {base:Nat} {v:Value} {d:DataW H} {p:List MemPlace} (hval:Value.okWide Tryz.prog W .any base 56 v) (h:DataW.Trod enc Tryz.prog W 0 (fun _=>true) true 56 v d p):∃ s o:ByteArray,v=.agg #[.string s,.string o]∧o.size≤9223372036854775807:=by
 have hv:∃ cs,v=.agg cs∧cs.size=2:=by
  unfold Value.okWide at hval;rw [Tryz.underlying56] at hval;obtain ⟨cs,e,hs,_⟩:=hval;exact ⟨cs,e,hs.trans (by kernel_rfl)⟩
 obtain ⟨cs,rfl,hsz⟩:=hv;obtain ⟨c0,c1,rfl⟩:∃ c0 c1,cs=#[c0,c1]:=by
  obtain ⟨l⟩:=cs
  match l,hsz with
  | [c0,c1],_=>exact ⟨c0,c1,rfl⟩
 obtain ⟨fuel,hf⟩:=h;obtain ⟨xs,m,rfl,_,_,hl,hfs⟩:=DataW.trod_array Tryz.underlying56 hf
 match xs,hl with
 | [y0,y1],_=>
  have g0:=hfs 0 (by omega);have g1:=hfs 1 (by omega);rw [cellsD_str] at g0 g1;change DataW.trod enc Tryz.prog W 0 (fun _=>true) true m 9 [c0]=some y0 at g0;change DataW.trod enc Tryz.prog W 0 (fun _=>true) true m 9 [c1]=some y1 at g1;obtain ⟨s,hs,_,_⟩:=DataW.trod_string Tryz.underlying9 g0;obtain rfl:c0=.string s:=by simpa using hs
  obtain ⟨o,ho,_,hw⟩:=DataW.trod_string Tryz.underlying9 g1;obtain rfl:c1=.string o:=by simpa using ho
  exact ⟨s,o,rfl,by unfold maxLen at hw;omega⟩
theorem strs_rdB {H:Type} {enc:TypeId×Value→H} {W:World} {base:Nat} {v:Value} {d:DataW H} {p:List MemPlace} (hval:Value.okWide Tryz.prog W .any base 25 v) (h:DataW.Trod enc Tryz.prog W 0 (fun _=>true) true 25 v d p) :
    ∃ a ss c,v=.slice a ss.length c∧RdS W.heap.size W (.slice a ss.length c) ss∧∀ x∈ss,x.size≤9223372036854775807:=by
 obtain ⟨a0,len,cap,rfl⟩:=okWide_slice Tryz.underlying25 hval;obtain ⟨fuel,hf⟩:=h;obtain ⟨a,ss,c,e,h1,h2,_⟩:=strs_rdT hf;exact ⟨a,ss,c,e,h1.rd (fun _ h=>h),h2⟩
theorem arr_rdB {H:Type} {enc:TypeId×Value→H} {W:World} {base:Nat} {v:Value} {d:DataW H} {p:List MemPlace} (hval:Value.okWide Tryz.prog W .any base 29 v) (h:DataW.Trod enc Tryz.prog W 0 (fun _=>true) true 29 v d p) :
    ∃ F x1 n1 c1 x2 n2 c2 t,v=.agg #[.slice x1 n1 c1,.slice x2 n2 c2]∧ArV F (· < W.heap.size) W (.slice x1 n1 c1) (.slice x2 n2 c2) t:=by
 obtain ⟨cs,rfl,hsz⟩:=okWide_struct Tryz.underlying29 hval;obtain ⟨c0,c1,rfl⟩:∃ c0 c1,cs=#[c0,c1]:=by
  obtain ⟨l⟩:=cs;have hl:l.length=2:=hsz.trans cellsA_arr
  match l,hl with
  | [c0,c1],_=>exact ⟨c0,c1,rfl⟩
 obtain ⟨fuel,hf⟩:=h;obtain ⟨t,x1,n1,y1,x2,n2,y2,e1,e2,e3,e4⟩:=arr_trod (fuel+1) fuel fuel [c0,c1] _ (by omega) (Nat.le_refl _) hf rfl;obtain rfl:c0=.slice x1 n1 y1:=by simpa using e1
 obtain rfl:c1=.slice x2 n2 y2:=by simpa using e2
 exact ⟨fuel,x1,n1,y1,x2,n2,y2,t,rfl,e3⟩
end
end Go.Proofs.YtimfnalpmmkndaaGreatDoor
