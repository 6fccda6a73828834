/- Proved: whatever row of items and two numbers are handed in, ShapeDrops answers true: what is dropped twice is what is dropped at once, but for prototypes. No condition. -/
import Derived.Test.YtheaeggecpfcbaaGreatRows
import Derived.Test.YtheaeggecpfcbaaGreatP0
import Derived.Test.YtheaeggecpfcbaaGreatI7
import Derived.Test.YtheaeggecpfcbaaGreatHH
import Derived.Lib.SmallJoins
import Derived.WalkKit
import Derived.ProofKit
import Derived.OpenShut
import Derived.Deep.DeepHandedRow
import Derived.Lib.LaidTab
namespace Go.Proofs.YtheaeggecpfcbaaGreat.shapeDrops
set_option linter.unusedVariables false
set_option linter.unusedSimpArgs false
open Go.ChangeShapes Go.WideShapes Go.ChangeAt Go.RowKit Go.Joins

theorem own:ownKnob Tryz.prog.godebug=none:=by kernel_rfl
theorem laidOut:laidOutB Tryz.prog=true:=by kernel_rfl

set_option maxRecDepth 100000 in
/-- A row of items among the arguments. -/
theorem items_rd {H:Type} {enc:TypeId×Value→H} {W:World} {base:Nat} {v:Value} {d:DataW H} {p:List MemPlace} (hval:Value.okWide Tryz.prog W .any base 22 v) (h:DataW.Trod enc Tryz.prog W 0 (fun _=>true) true 22 v d p) :
    ∃ F a c l,v=.slice a (List.length l) c∧RowB (· < W.heap.size) l.length (.slice a l.length c) (fun g o j=>ItC (ArV F (· < W.heap.size) W) (· < W.heap.size) W g (o+j*6) (l.getD j tr0))∧(okW 22 d→l.length*96≤140737488355328):=by
 obtain ⟨a0,len,cap,rfl⟩:=okWide_slice Tryz.underlying22 hval;obtain ⟨fuel,hf⟩:=h;change DataW.trod enc Tryz.prog W 0 (fun _=>true) true fuel 22 [.slice a0 len cap]=some (d,p) at hf;obtain ⟨a2,c2,l,e,r3,r4,l3⟩:=slice_trees (Q:=ItemQ W fuel H) Tryz.underlying22 cellsA_item (by omega) hf (fun q cs z hq hz hzl=>item_trod (fun q' cs' z' hq' hqF hz' hzl'=>arr_trod (fuel+2) q' fuel cs' z' (by omega) hqF hz' hzl') (by omega) hz hzl);refine ⟨fuel,a2,c2,l,e,r3.imp (fun _ h=>h) ?_,fun hB => ?_⟩
 · rintro g o j hg hj ⟨d,cs,hcs,b1,d1,b2,d2,b3,d3,⟨e0,e1,e2,e3,e4,e5⟩,hv,_⟩
   exact ⟨b1,d1,b2,d2,b3,d3,⟨(hcs 0 (by omega)).symm.trans e0,(hcs 1 (by omega)).symm.trans e1,(hcs 2 (by omega)).symm.trans e2,(hcs 3 (by omega)).symm.trans e3,(hcs 4 (by omega)).symm.trans e4,(hcs 5 (by omega)).symm.trans e5⟩,hv⟩
 · have m3:=l3 hB
   rw [bytesA_item] at m3;exact m3
set_option maxRecDepth 100000 in
theorem contract (H:Type) (enc:TypeId×Value→H) (W:World) (base:Nat) (args:Array Value) (ds gs:List (DataW H)) (before:List MemPlace)
    (hval:∀ (j:Nat) t v,Tryz.f7.params[j]? = some t→args[j]? = some v→Value.okWide Tryz.prog W .any base t v)
    (hW:DataW.Whole enc Tryz.prog Tryz.f7.params.toList Rows.shapeDropsSpec.vars false W args.toList ds gs before)
    (hsz:(DataW.weightsEach Tryz.prog (Tryz.f7.params.toList++[]) (ds++gs)).all (· ≤ reachBytes)=true) :
    Calls Tryz.prog 7 args W fun e W'=>∃ v,e=.returned v∧Rows.shapeDropsSpec.post enc Tryz.prog Tryz.f7 false true false false W args v W':=by
 have hW':=hW;obtain ⟨p,q,hA0,hV,rfl,hfz,hnd⟩:=hW;have hA:DataW.TrodAll enc Tryz.prog W 0 (fun _=>true) true Tryz.f7.params.toList args.toList ds p:=hA0;rw [Tryz.params7] at hA hval hsz;obtain ⟨v0,v1,v2,d0,d1,d2,p0,p1,p2,rfl,rfl,rfl,h0,h1,h2⟩:=trodAll_three hA;obtain ⟨rfl,rfl⟩:=trodVars_none hV;clear hA0;simp only [List.append_nil] at hW';obtain ⟨F,a,c,l,rfl,hrow,hlen⟩:=items_rd (hval 0 22 v0 rfl rfl) h0;obtain ⟨y1,rfl,rfl,rfl,wy1⟩:=open_int Tryz.underlying5 (hval 1 5 v1 rfl rfl) h1;obtain ⟨y2,rfl,rfl,rfl,wy2⟩:=open_int Tryz.underlying5 (hval 2 5 v2 rfl rfl) h2;have hlt:∀ x∈p0++([]++[]),x.block<W.heap.size:=fun x hx=>by simpa using hW'.lt x (by simpa using hx)
 have hok:okW 22 d0:=fun x hx=>by
  have:=List.all_eq_true.1 hsz x (List.mem_append_left _ hx);exact of_decide_eq_true this
 have b1:=bounds_u8 wy1;have b2:=bounds_u8 wy2;obtain ⟨n,rfl⟩:∃ n:Nat,y1=(n:Int):=⟨y1.toNat,by omega⟩;obtain ⟨m,rfl⟩:∃ m:Nat,y2=(m:Int):=⟨y2.toNat,by omega⟩;refine (shapeDrops_walk live6_ok (fun _ h=>h) hrow (hlen hok) (by omega) (by omega)).mono fun e W' ⟨he,hnx⟩ => ?_;subst he;refine ⟨_,rfl,_,_,_,[],p0++([]++[]),[],hW',?_,?_,rfl,hnx.frame _,fun h=>by cases h⟩
 · exact trodAll_mk1 (shut_bool Tryz.underlying4 _)
 · exact trodAll_mk3 (Below.trod laidOut (by kernel_rfl) (of_decide_eq_true (by kernel_rfl)) h0 hnx (fun x hx=>hlt x (by simp [hx]))) (shut_int Tryz.underlying5 wy1) (shut_int Tryz.underlying5 wy2)

theorem reads (os:Os) {H:Type} (enc:TypeId×Value→H):∃ places,DataW.whole enc Tryz.prog ((World.holding Tryz.prog os ⟨#[],#[],[]⟩).forCall (fun _ _=>0) ⟨#[],#[.slice none 0 0,.int .u8 0,.int .u8 0],[]⟩).memory Tryz.f7.params.toList Rows.shapeDropsSpec.vars false #[Value.slice none 0 0,.int .u8 0,.int .u8 0].toList 8=some ([.nil,.lit (.int .u8 0),.lit (.int .u8 0)],[],places):=
 ⟨[],by kernel_rfl⟩
theorem laid_met (os:Os) (args:Array Value):laidMet Tryz.prog Rows.shapeDropsRow.laid ((World.holding Tryz.prog os ⟨#[],#[],[]⟩).forCall (fun _ _=>0) ⟨#[],args,[]⟩).memory:=
 laidMet_of_run' 8 (by kernel_rfl) (by kernel_rfl)

set_option maxRecDepth 100000 in
theorem lifted (os:Os) (started:os.Started) (H:Type) (enc:TypeId×Value→H) (F:Stop.Interp) :
    ReturnsInHanded {} Tryz.checked os 7 .any ((OpenSpec.ofChange Rows.shapeDropsSpec).preRow enc Tryz.prog Tryz.f7 Rows.shapeDropsRow.domain false Rows.shapeDropsRow.laid) (((OpenSpec.ofChange Rows.shapeDropsSpec).at F).post enc Tryz.prog Tryz.f7 false true false false):=by
 obtain ⟨places,hx⟩:=reads os enc;refine returnsInHanded_of_row (C:=Tryz.checked) (s:=OpenSpec.ofChange Rows.shapeDropsSpec) own started (by kernel_rfl) Tryz.func7
  (witness_row_at (enc:=enc) (C:=Tryz.checked) false (World.holding Tryz.prog os ⟨#[],#[],[]⟩) #[.slice none 0 0,.int .u8 0,.int .u8 0] rfl (by kernel_rfl) (by kernel_rfl) (by kernel_rfl)
   (OpenSpec.preRow_of_cond 8 hx (by kernel_rfl) (fun k hk=>by cases hk) (by kernel_rfl) (laid_met os _))) ?_
 intro W base args ds gs before hval hW _ _ hsz _ _ _;exact contract H enc W base args ds gs before hval hW hsz

theorem said:Rows.ShapeDropsSaid:=
 OpenClaim.holds_of_cond 7 Tryz.f7 rfl rfl rfl rfl rfl rfl rfl ⟨rfl,rfl,rfl,rfl,rfl⟩ rfl rfl rfl rfl rfl (by kernel_rfl) Tryz.func7 (by kernel_rfl)
  (of_decide_eq_true (by kernel_rfl)) (by unfold Func.isWrapper;first | (rw [if_pos (by decide +kernel)];kernel_rfl) | (rw [if_neg (by decide +kernel)];exact ⟨rfl,rfl⟩))
  (fun os started H enc _ F=>by rw [OpenClaim.pre_eq_preRow];exact lifted os started H enc F)
end Go.Proofs.YtheaeggecpfcbaaGreat.shapeDrops
namespace Go.Proofs.YtheaeggecpfcbaaGreat
theorem shapeDrops_card:Rows.ShapeDropsSaid:=shapeDrops.said
end Go.Proofs.YtheaeggecpfcbaaGreat
