/- Proved: whatever array and two numbers are handed in, ShapeTurns answers true: turning, laying the other way and reshaping there and back give the same. No condition. -/
import Derived.Test.YtheaeggecpfcbaaGreatRows
import Derived.Test.YtheaeggecpfcbaaGreatP0
import Derived.Test.YtheaeggecpfcbaaGreatHC
import Derived.Test.YtheaeggecpfcbaaGreatHH
import Derived.Lib.SmallJoins
import Derived.WalkKit
import Derived.ProofKit
import Derived.OpenShut
import Derived.Deep.DeepHandedRow
import Derived.Lib.LaidTab
namespace Go.Proofs.YtheaeggecpfcbaaGreat.shapeTurns
set_option linter.unusedVariables false
set_option linter.unusedSimpArgs false
open Go.ChangeShapes Go.WideShapes Go.ChangeAt Go.RowKit Go.Joins

theorem own:ownKnob Tryz.prog.godebug=none:=by kernel_rfl
theorem laidOut:laidOutB Tryz.prog=true:=by kernel_rfl

set_option maxRecDepth 100000 in
theorem contract (H:Type) (enc:TypeId×Value→H) (W:World) (base:Nat) (args:Array Value) (ds gs:List (DataW H)) (before:List MemPlace)
    (hval:∀ (j:Nat) t v,Tryz.f6.params[j]? = some t→args[j]? = some v→Value.okWide Tryz.prog W .any base t v)
    (hW:DataW.Whole enc Tryz.prog Tryz.f6.params.toList Rows.shapeTurnsSpec.vars false W args.toList ds gs before) :
    Calls Tryz.prog 6 args W fun e W'=>∃ v,e=.returned v∧Rows.shapeTurnsSpec.post enc Tryz.prog Tryz.f6 false true false false W args v W':=by
 have hW':=hW;obtain ⟨p,q,hA0,hV,rfl,hfz,hnd⟩:=hW;have hA:DataW.TrodAll enc Tryz.prog W 0 (fun _=>true) true Tryz.f6.params.toList args.toList ds p:=hA0;rw [Tryz.params6] at hA hval;obtain ⟨v0,v1,v2,d0,d1,d2,p0,p1,p2,rfl,rfl,rfl,h0,h1,h2⟩:=trodAll_three hA;obtain ⟨rfl,rfl⟩:=trodVars_none hV;clear hA0;simp only [List.append_nil] at hW';obtain ⟨F,x1,n1,c1,x2,n2,c2,t,rfl,hv,_⟩:=arr_rd (hval 0 25 v0 rfl rfl) h0;obtain ⟨y1,rfl,rfl,rfl,wy1⟩:=open_int Tryz.underlying45 (hval 1 45 v1 rfl rfl) h1;obtain ⟨y2,rfl,rfl,rfl,wy2⟩:=open_int Tryz.underlying45 (hval 2 45 v2 rfl rfl) h2;have hlt:∀ x∈p0++([]++[]),x.block<W.heap.size:=fun x hx=>by simpa using hW'.lt x (by simpa using hx)
 have hu:ArV (F+1) (· < W.heap.size) W (.slice x1 n1 c1) (.slice x2 n2 c2) t:=hv.up (Nat.le_succ F);obtain rfl:n1=t.ns.length:=hu.1.len;obtain rfl:n2=t.kids.length:=hu.2.len;refine (shapeTurns_walk live6_ok (fun _ h=>h) hu (bounds_i16 wy1) (bounds_i16 wy2)).mono fun e W' ⟨he,hnx⟩ => ?_;subst he;refine ⟨_,rfl,_,_,_,[],p0++([]++[]),[],hW',?_,?_,rfl,hnx.frame _,fun h=>by cases h⟩
 · exact trodAll_mk1 (shut_bool Tryz.underlying4 _)
 · exact trodAll_mk3 (Below.trod laidOut (by kernel_rfl) (of_decide_eq_true (by kernel_rfl)) h0 hnx (fun x hx=>hlt x (by simp [hx]))) (shut_int Tryz.underlying45 wy1) (shut_int Tryz.underlying45 wy2)

theorem reads (os:Os) {H:Type} (enc:TypeId×Value→H):∃ places,DataW.whole enc Tryz.prog ((World.holding Tryz.prog os ⟨#[],#[],[]⟩).forCall (fun _ _=>0) ⟨#[],#[.agg #[.slice none 0 0,.slice none 0 0],.int .i16 0,.int .i16 0],[]⟩).memory Tryz.f6.params.toList Rows.shapeTurnsSpec.vars false #[Value.agg #[.slice none 0 0,.slice none 0 0],.int .i16 0,.int .i16 0].toList 8=some ([.agg [.nil,.nil],.lit (.int .i16 0),.lit (.int .i16 0)],[],places):=
 ⟨[],by kernel_rfl⟩
theorem laid_met (os:Os) (args:Array Value):laidMet Tryz.prog Rows.shapeTurnsRow.laid ((World.holding Tryz.prog os ⟨#[],#[],[]⟩).forCall (fun _ _=>0) ⟨#[],args,[]⟩).memory:=
 laidMet_of_run' 8 (by kernel_rfl) (by kernel_rfl)

set_option maxRecDepth 100000 in
theorem lifted (os:Os) (started:os.Started) (H:Type) (enc:TypeId×Value→H) (F:Stop.Interp) :
    ReturnsInHanded {} Tryz.checked os 6 .any ((OpenSpec.ofChange Rows.shapeTurnsSpec).preRow enc Tryz.prog Tryz.f6 Rows.shapeTurnsRow.domain false Rows.shapeTurnsRow.laid) (((OpenSpec.ofChange Rows.shapeTurnsSpec).at F).post enc Tryz.prog Tryz.f6 false true false false):=by
 obtain ⟨places,hx⟩:=reads os enc;refine returnsInHanded_of_row (C:=Tryz.checked) (s:=OpenSpec.ofChange Rows.shapeTurnsSpec) own started (by kernel_rfl) Tryz.func6
  (witness_row_at (enc:=enc) (C:=Tryz.checked) false (World.holding Tryz.prog os ⟨#[],#[],[]⟩) #[.agg #[.slice none 0 0,.slice none 0 0],.int .i16 0,.int .i16 0] rfl (by kernel_rfl) (by kernel_rfl) (by kernel_rfl)
   (OpenSpec.preRow_of_cond 8 hx (by kernel_rfl) (fun k hk=>by cases hk) (by kernel_rfl) (laid_met os _))) ?_
 intro W base args ds gs before hval hW _ _ hsz _ _ _;exact contract H enc W base args ds gs before hval hW

theorem said:Rows.ShapeTurnsSaid:=
 OpenClaim.holds_of_cond 6 Tryz.f6 rfl rfl rfl rfl rfl rfl rfl ⟨rfl,rfl,rfl,rfl,rfl⟩ rfl rfl rfl rfl rfl (by kernel_rfl) Tryz.func6 (by kernel_rfl)
  (of_decide_eq_true (by kernel_rfl)) (by unfold Func.isWrapper;first | (rw [if_pos (by decide +kernel)];kernel_rfl) | (rw [if_neg (by decide +kernel)];exact ⟨rfl,rfl⟩))
  (fun os started H enc _ F=>by rw [OpenClaim.pre_eq_preRow];exact lifted os started H enc F)
end Go.Proofs.YtheaeggecpfcbaaGreat.shapeTurns
namespace Go.Proofs.YtheaeggecpfcbaaGreat
theorem shapeTurns_card:Rows.ShapeTurnsSaid:=shapeTurns.said
end Go.Proofs.YtheaeggecpfcbaaGreat
