/- Proved: whatever character, environment and two numbers are handed in, right or not, ScalarNumbers answers true: scalar.One and scalar.Two tell the number, or the error, that the document tells. No condition. -/
import Derived.Test.YtilbfkabfgnhpaaGreatRows
import Derived.Test.YtilbfkabfgnhpaaGreatScalarNumbersW
import Derived.Lib.SmallJoins
import Derived.WalkKit
import Derived.ProofKit
import Derived.OpenShut
import Derived.Deep.DeepHandedRow
import Derived.Lib.LaidTab
namespace Go.Proofs.YtilbfkabfgnhpaaGreat.scalarNumbers
set_option linter.unusedVariables false
set_option linter.unusedSimpArgs false
open Go.ChangeShapes Go.WideShapes Go.ChangeAt Go.RowKit Go.Joins

theorem own:ownKnob Tryz.prog.godebug=none:=by kernel_rfl
theorem laidOut:laidOutB Tryz.prog=true:=by kernel_rfl
theorem cellsU:Tryz.prog.cellsOf 100=1:=by kernel_rfl
theorem cellsR:Tryz.prog.cellsOf 24=3:=by kernel_rfl
theorem lt_of_cellS {w:World} {b off:Nat} {v:Value} (h:w.cell? ⟨b,off,none⟩=some v):b<w.heap.size:=by
 rcases Nat.lt_or_ge b w.heap.size with h' | h'
 · exact h'
 · simp [World.cell?,Array.getElem?_eq_none h'] at h

set_option maxRecDepth 100000 in
theorem limbs_rdS {H:Type} {enc:TypeId×Value→H} {W:World} {v:Value} {y:DataW H×List MemPlace} {fuel:Nat} (hf:DataW.trod enc Tryz.prog W 0 (fun _=>true) true fuel 22 [v]=some y):∃ a xs c,v=.slice a xs.length c∧Rd W.heap.size W (.slice a xs.length c) xs:=by
 rcases open_ints Tryz.underlying22 Tryz.underlying100 cellsU hf with ⟨hcs,hx⟩ | ⟨a,len',cap',zs,hcs,_,hl,hm,hz,hx,hcell,hwz⟩
 · have hv:v=.slice none 0 0:=by simpa using hcs
   subst hv;exact ⟨none,[],0,rfl,lim_nil,none,0,rfl,Nat.le_refl _,by omega,fun _=>rfl,Or.inl rfl⟩
 · have hv:v=.slice (some a) len' cap':=by simpa using hcs
   subst hv;simp only [if_true] at hz;have hlen:(zs.take len').length=len':=by simp;omega
   refine ⟨some a,zs.take len',cap',by rw [hlen],fun x hx => ?_,some a,cap',rfl,by omega,by unfold maxLen at hm;omega,(fun h=>by cases h),?_⟩
   · have:=bounds_u32 (hwz x (List.mem_of_mem_take hx));omega
   · by_cases h0:len'=0
     · exact Or.inl (by omega)
     · obtain ⟨b,off,spot⟩:=a
       have hspot:spot=none:=by simpa [Addr.add] using World.cell?_spot (hcell 0 (by omega))
       subst hspot;have hc0:=hcell 0 (by omega);rw [Lib.add_plain] at hc0;refine Or.inr ⟨b,off,rfl,lt_of_cellS hc0,fun j hj => ?_⟩;rw [hlen] at hj;have:=hcell j (by omega);rw [Lib.add_plain] at this;rw [this];have:(zs.take len').getD j 0=zs.getD j 0:=by simp only [List.getD,List.getElem?_take];rw [if_pos (by omega)]
       rw [this]

theorem cellsE_bool:Tryz.prog.cellsOf 4=1:=by kernel_rfl
theorem cellsE_limbs:Tryz.prog.cellsOf 22=1:=by kernel_rfl
theorem cellsE_int:Tryz.prog.cellsOf 3=1:=by kernel_rfl
theorem cells5 {cs:List Value} (h:cs.length=5):∃ u0 u1 u2 u3 u4,cs=[u0,u1,u2,u3,u4]:=by
 match cs,h with
 | [u0,u1,u2,u3,u4],_=>exact ⟨_,_,_,_,_,rfl⟩
theorem cells6' {cs:List Value} (h:cs.length=6):∃ u0 u1 u2 u3 u4 u5,cs=[u0,u1,u2,u3,u4,u5]:=by
 match cs,h with
 | [u0,u1,u2,u3,u4,u5],_=>exact ⟨_,_,_,_,_,_,rfl⟩
set_option maxRecDepth 100000 in
/-- A number's cells. -/
theorem rat_trod {H:Type} {enc:TypeId×Value→H} {W:World} {u1 u2 u3:Value} {y:DataW H×List MemPlace} {fuel:Nat} (h1:DataW.trod enc Tryz.prog W 0 (fun _=>true) true fuel 24 [u1,u2,u3]=some y) :
    ∃ b a1 ns c1 a2 ds c2,u1=.bool b∧u2=.slice a1 ns.length c1∧u3=.slice a2 ds.length c2∧Rd W.heap.size W (.slice a1 ns.length c1) ns∧Rd W.heap.size W (.slice a2 ds.length c2) ds:=by
 obtain ⟨zs,m,rfl,rfl,_,hzl,hgs⟩:=DataW.trod_struct Tryz.underlying24 h1
 match zs,hzl with
 | [z0,z1,z2],_=>
  have g0:=hgs 0 _ rfl;change DataW.trod enc Tryz.prog W 0 (fun _=>true) true m 4 (([u1,u2,u3].drop 0).take (Tryz.prog.cellsOf 4))=some z0 at g0;rw [cellsE_bool] at g0;have g1:=hgs 1 _ rfl;change DataW.trod enc Tryz.prog W 0 (fun _=>true) true m 22 (([u1,u2,u3].drop 1).take (Tryz.prog.cellsOf 22))=some z1 at g1;rw [cellsE_limbs] at g1;have g2:=hgs 2 _ rfl;change DataW.trod enc Tryz.prog W 0 (fun _=>true) true m 22 (([u1,u2,u3].drop 2).take (Tryz.prog.cellsOf 22))=some z2 at g2;rw [cellsE_limbs] at g2;change DataW.trod enc Tryz.prog W 0 (fun _=>true) true m 4 [u1]=some z0 at g0;change DataW.trod enc Tryz.prog W 0 (fun _=>true) true m 22 [u2]=some z1 at g1;change DataW.trod enc Tryz.prog W 0 (fun _=>true) true m 22 [u3]=some z2 at g2;obtain ⟨b,hb,_⟩:=DataW.trod_bool Tryz.underlying4 g0;obtain rfl:u1=.bool b:=by simpa using hb
  obtain ⟨a1,ns,c1,rfl,r1⟩:=limbs_rdS g1;obtain ⟨a2,ds,c2,rfl,r2⟩:=limbs_rdS g2;exact ⟨b,a1,ns,c1,a2,ds,c2,rfl,rfl,rfl,r1,r2⟩
set_option maxRecDepth 100000 in
theorem i32_rd {H:Type} {enc:TypeId×Value→H} {W:World} {base:Nat} {v:Value} {d:DataW H} {p:List MemPlace} (hval:Value.okWide Tryz.prog W .any base 21 v) (h:DataW.Trod enc Tryz.prog W 0 (fun _=>true) true 21 v d p):∃ n:Int,v=.int .i32 n:=okWide_int Tryz.underlying21 hval
set_option maxRecDepth 100000 in
/-- An environment among the arguments. -/
theorem env_rd {H:Type} {enc:TypeId×Value→H} {W:World} {base:Nat} {v:Value} {d:DataW H} {p:List MemPlace} (hval:Value.okWide Tryz.prog W .any base 26 v) (h:DataW.Trod enc Tryz.prog W 0 (fun _=>true) true 26 v d p) :
    ∃ io b a1 ns c1 a2 ds c2 pp,v=.agg #[.int .i64 io,.bool b,.slice a1 ns.length c1,.slice a2 ds.length c2,.int .i64 pp]∧Rd W.heap.size W (.slice a1 ns.length c1) ns∧Rd W.heap.size W (.slice a2 ds.length c2) ds:=by
 obtain ⟨⟨cs⟩,rfl,hsz⟩:=okWide_struct Tryz.underlying26 hval;obtain ⟨u0,u1,u2,u3,u4,rfl⟩:=cells5 (show cs.length=5 from hsz.trans (by kernel_rfl));obtain ⟨fuel,hf⟩:=h;change DataW.trod enc Tryz.prog W 0 (fun _=>true) true fuel 26 [u0,u1,u2,u3,u4]=some _ at hf;obtain ⟨zs,m,he,hp,_,hzl,hgs⟩:=DataW.trod_struct Tryz.underlying26 hf
 match zs,hzl with
 | [z0,z1,z2],_=>
  have g0:=hgs 0 _ rfl;change DataW.trod enc Tryz.prog W 0 (fun _=>true) true m 3 (([u0,u1,u2,u3,u4].drop 0).take (Tryz.prog.cellsOf 3))=some z0 at g0;rw [cellsE_int] at g0;have g1:=hgs 1 _ rfl;change DataW.trod enc Tryz.prog W 0 (fun _=>true) true m 24 (([u0,u1,u2,u3,u4].drop 1).take (Tryz.prog.cellsOf 24))=some z1 at g1;rw [cellsR] at g1;have g2:=hgs 2 _ rfl;change DataW.trod enc Tryz.prog W 0 (fun _=>true) true m 3 (([u0,u1,u2,u3,u4].drop 4).take (Tryz.prog.cellsOf 3))=some z2 at g2;rw [cellsE_int] at g2;change DataW.trod enc Tryz.prog W 0 (fun _=>true) true m 3 [u0]=some z0 at g0;change DataW.trod enc Tryz.prog W 0 (fun _=>true) true m 24 [u1,u2,u3]=some z1 at g1;change DataW.trod enc Tryz.prog W 0 (fun _=>true) true m 3 [u4]=some z2 at g2;obtain ⟨io,hio,_⟩:=DataW.trod_int Tryz.underlying3 g0;obtain rfl:u0=.int .i64 io:=by simpa using hio
  obtain ⟨pp,hpp,_⟩:=DataW.trod_int Tryz.underlying3 g2;obtain rfl:u4=.int .i64 pp:=by simpa using hpp
  obtain ⟨b,a1,ns,c1,a2,ds,c2,rfl,rfl,rfl,r1,r2⟩:=rat_trod g1;exact ⟨io,b,a1,ns,c1,a2,ds,c2,pp,rfl,r1,r2⟩
set_option maxRecDepth 100000 in
/-- Two numbers among the arguments. -/
theorem two_rd {H:Type} {enc:TypeId×Value→H} {W:World} {base:Nat} {v:Value} {d:DataW H} {p:List MemPlace} (hval:Value.okWide Tryz.prog W .any base 27 v) (h:DataW.Trod enc Tryz.prog W 0 (fun _=>true) true 27 v d p) :
    ∃ b a1 ns c1 a2 ds c2 b' a3 ms c3 a4 es c4,v=.agg #[.bool b,.slice a1 ns.length c1,.slice a2 ds.length c2,.bool b',.slice a3 ms.length c3,.slice a4 es.length c4]∧Rd W.heap.size W (.slice a1 ns.length c1) ns∧Rd W.heap.size W (.slice a2 ds.length c2) ds∧Rd W.heap.size W (.slice a3 ms.length c3) ms∧Rd W.heap.size W (.slice a4 es.length c4) es:=by
 have hv:∃ cs,v=.agg cs∧cs.size=6:=by
  unfold Value.okWide at hval;rw [Tryz.underlying27] at hval;obtain ⟨cs,e,hs,_⟩:=hval;exact ⟨cs,e,hs.trans (by kernel_rfl)⟩
 obtain ⟨⟨cs⟩,rfl,hsz⟩:=hv;obtain ⟨c0,c1,c2,c3,c4,c5,rfl⟩:=cells6' (show cs.length=6 from hsz);obtain ⟨fuel,hf⟩:=h;obtain ⟨xs,m,rfl,_,_,hl,hfs⟩:=DataW.trod_array Tryz.underlying27 hf
 match xs,hl with
 | [y0,y1],_=>
  have g0:=hfs 0 (by omega);have g1:=hfs 1 (by omega);rw [cellsR] at g0 g1;change DataW.trod enc Tryz.prog W 0 (fun _=>true) true m 24 [c0,c1,c2]=some y0 at g0;change DataW.trod enc Tryz.prog W 0 (fun _=>true) true m 24 [c3,c4,c5]=some y1 at g1;obtain ⟨b,a1,ns,k1,a2,ds,k2,rfl,rfl,rfl,r1,r2⟩:=rat_trod g0;obtain ⟨b',a3,ms,k3,a4,es,k4,rfl,rfl,rfl,r3,r4⟩:=rat_trod g1;exact ⟨b,a1,ns,k1,a2,ds,k2,b',a3,ms,k3,a4,es,k4,rfl,r1,r2,r3,r4⟩

set_option maxRecDepth 100000 in
theorem contract (H:Type) (enc:TypeId×Value→H) (W:World) (base:Nat) (args:Array Value) (ds gs:List (DataW H)) (before:List MemPlace)
    (hval:∀ (j:Nat) t v,Tryz.f3.params[j]? = some t→args[j]? = some v→Value.okWide Tryz.prog W .any base t v)
    (hW:DataW.Whole enc Tryz.prog Tryz.f3.params.toList Rows.scalarNumbersSpec.vars false W args.toList ds gs before)
    (hsz:(DataW.weightsEach Tryz.prog (Tryz.f3.params.toList++[]) (ds++gs)).all (· ≤ reachBytes)=true) :
    Calls Tryz.prog 3 args W fun e W'=>∃ v,e=.returned v∧Rows.scalarNumbersSpec.post enc Tryz.prog Tryz.f3 false true false false W args v W':=by
 have hW':=hW;obtain ⟨p,q,hA0,hV,rfl,hfz,hnd⟩:=hW;have hA:DataW.TrodAll enc Tryz.prog W 0 (fun _=>true) true Tryz.f3.params.toList args.toList ds p:=hA0;rw [Tryz.params3] at hA hval hsz;obtain ⟨v0,v1,v2,d0,d1,d2,p0,p1,p2,rfl,rfl,rfl,h0,h1,h2⟩:=trodAll_three hA;obtain ⟨rfl,rfl⟩:=trodVars_none hV;clear hA0;simp only [List.append_nil] at hW';obtain ⟨n,rfl⟩:=i32_rd (hval 0 21 v0 rfl rfl) h0;obtain ⟨io,bt,a5,tn,c5,a6,td,c6,pp,rfl,r1,r2⟩:=env_rd (hval 1 26 v1 rfl rfl) h1;obtain ⟨bx,a1,xn,c1,a2,xd,c2,cy,a3,yn,c3,a4,yd,c4,rfl,r3,r4,r5,r6⟩:=two_rd (hval 2 27 v2 rfl rfl) h2;have hlt:∀ x∈p0++(p1++p2),x.block<W.heap.size:=fun x hx=>by simpa using hW'.lt x (by simpa using hx)
 refine (scalarNumbers_walk r1 r2 r3 r4 r5 r6).mono fun e W' ⟨he,hnx⟩ => ?_;subst he;refine ⟨_,rfl,_,_,_,[],p0++(p1++p2),[],hW',?_,?_,rfl,hnx.frame _,fun h=>by cases h⟩
 · exact trodAll_mk1 (shut_bool Tryz.underlying4 _)
 · exact trodAll_mk3 (Below.trod laidOut (by kernel_rfl) (of_decide_eq_true (by kernel_rfl)) h0 hnx (fun x hx=>hlt x (by simp [hx]))) (Below.trod laidOut (by kernel_rfl) (of_decide_eq_true (by kernel_rfl)) h1 hnx (fun x hx=>hlt x (by simp [hx]))) (Below.trod laidOut (by kernel_rfl) (of_decide_eq_true (by kernel_rfl)) h2 hnx (fun x hx=>hlt x (by simp [hx])))

theorem reads (os:Os) {H:Type} (enc:TypeId×Value→H):∃ places,DataW.whole enc Tryz.prog ((World.holding Tryz.prog os ⟨#[],#[],[]⟩).forCall (fun _ _=>0) ⟨#[],#[.int .i32 0,.agg #[.int .i64 0,.bool false,.slice none 0 0,.slice none 0 0,.int .i64 0],.agg #[.bool false,.slice none 0 0,.slice none 0 0,.bool false,.slice none 0 0,.slice none 0 0]],[]⟩).memory Tryz.f3.params.toList Rows.scalarNumbersSpec.vars false #[Value.int .i32 0,.agg #[.int .i64 0,.bool false,.slice none 0 0,.slice none 0 0,.int .i64 0],.agg #[.bool false,.slice none 0 0,.slice none 0 0,.bool false,.slice none 0 0,.slice none 0 0]].toList 8=some ([.lit (.int .i32 0),.agg [.lit (.int .i64 0),.agg [.lit (.bool false),.nil,.nil],.lit (.int .i64 0)],.agg [.agg [.lit (.bool false),.nil,.nil],.agg [.lit (.bool false),.nil,.nil]]],[],places):=
 ⟨[],by kernel_rfl⟩
theorem laid_met (os:Os) (args:Array Value):laidMet Tryz.prog Rows.scalarNumbersRow.laid ((World.holding Tryz.prog os ⟨#[],#[],[]⟩).forCall (fun _ _=>0) ⟨#[],args,[]⟩).memory:=
 laidMet_of_run' 8 (by kernel_rfl) (by kernel_rfl)

set_option maxRecDepth 100000 in
theorem lifted (os:Os) (started:os.Started) (H:Type) (enc:TypeId×Value→H) (F:Stop.Interp) :
    ReturnsInHanded {} Tryz.checked os 3 .any ((OpenSpec.ofChange Rows.scalarNumbersSpec).preRow enc Tryz.prog Tryz.f3 Rows.scalarNumbersRow.domain false Rows.scalarNumbersRow.laid) (((OpenSpec.ofChange Rows.scalarNumbersSpec).at F).post enc Tryz.prog Tryz.f3 false true false false):=by
 obtain ⟨places,hx⟩:=reads os enc;refine returnsInHanded_of_row (C:=Tryz.checked) (s:=OpenSpec.ofChange Rows.scalarNumbersSpec) own started (by kernel_rfl) Tryz.func3
  (witness_row_at (enc:=enc) (C:=Tryz.checked) false (World.holding Tryz.prog os ⟨#[],#[],[]⟩) #[.int .i32 0,.agg #[.int .i64 0,.bool false,.slice none 0 0,.slice none 0 0,.int .i64 0],.agg #[.bool false,.slice none 0 0,.slice none 0 0,.bool false,.slice none 0 0,.slice none 0 0]] rfl (by kernel_rfl) (by kernel_rfl) (by kernel_rfl)
   (OpenSpec.preRow_of_cond 8 hx (by kernel_rfl) (fun k hk=>by cases hk) (by kernel_rfl) (laid_met os _))) ?_
 intro W base args ds gs before hval hW _ _ hsz _ _ _;exact contract H enc W base args ds gs before hval hW hsz

theorem said:Rows.ScalarNumbersSaid:=
 OpenClaim.holds_of_cond 3 Tryz.f3 rfl rfl rfl rfl rfl rfl rfl ⟨rfl,rfl,rfl,rfl,rfl⟩ rfl rfl rfl rfl rfl (by kernel_rfl) Tryz.func3 (by kernel_rfl)
  (of_decide_eq_true (by kernel_rfl)) (by unfold Func.isWrapper;first | (rw [if_pos (by decide +kernel)];kernel_rfl) | (rw [if_neg (by decide +kernel)];exact ⟨rfl,rfl⟩))
  (fun os started H enc _ F=>by rw [OpenClaim.pre_eq_preRow];exact lifted os started H enc F)
end Go.Proofs.YtilbfkabfgnhpaaGreat.scalarNumbers
namespace Go.Proofs.YtilbfkabfgnhpaaGreat
theorem scalarNumbers_card:Rows.ScalarNumbersSaid:=scalarNumbers.said
end Go.Proofs.YtilbfkabfgnhpaaGreat
