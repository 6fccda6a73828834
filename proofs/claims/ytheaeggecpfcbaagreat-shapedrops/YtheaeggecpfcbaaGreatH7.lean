/- The drawn region of shape.steps: a step is appended to its axis. -/
import Derived.Test.YtheaeggecpfcbaaGreatH6
import Derived.Test.YtheaeggecpfcbaaGreatH5
import Derived.Deep.RegionHeld3
set_option maxRecDepth 100000
set_option maxHeartbeats 16000000
set_option linter.unusedVariables false
set_option linter.unusedSimpArgs false
namespace Go.Proofs.YtheaeggecpfcbaaGreat
open Go.RowKit
theorem step_append_Z {base p:Nat} {ops:Array Oper} {o:Oper} {a:Act} {w:World} {K:Act→World→Prop} {Q:Exit→Act→World→Prop} {E:Prop} {v:Value} {xs:List Int} {k:Int} (hg:o.guard=none) (s x:Operand)
    (ho:o.op=.call { callee:=.builtin .append,args:=#[s,x],argTypes:=#[23,23] }) (hs:a.eval s=v) (hx:a.eval x=.slice (some ⟨p,0,none⟩) 1 1) (hO:OwZ base w v xs) (hR:BoxA w p 3 #[.int .i64 k]) (hl:xs.length≤1000000) (hb:base≤w.heap.size)
    (hK:∀ v' w',OwZ base w' v' (xs++[k])→w.grownBy w' v.ownBlock→K (a.put o.dst v') w') :
    if Region.wanted o (yielded ops a.tmps)=true then Oper.wp Tryz.prog o a w K Q else E:=by
 rw [if_pos (by simp [Region.wanted,hg])];obtain ⟨i0,hi,hz0,hz1,hz2⟩:=info_parts info_int3;obtain ⟨v',w',hr,h2,h3,h4,h5⟩:=run_append_own_at (P:=Tryz.prog) w base 23 o.type 3 i0 (.int .i64 0) 1 8 Tryz.underlying23 hi hz0 hz1 hz2 rfl (by decide) v xs.length (xs.map (Value.int .i64)) hO ⟨p,0,none⟩ 1 1 [.int .i64 k] rfl (by
  intro j u hj
  match j,hj with
  | 0,hj=>simp at hj;subst hj;exact hR.cell 0 rfl) (by intro u hu;simp at hu;subst hu;rfl) (by unfold maxLen;omega) (by omega) hb
 unfold Oper.wp execOp;simp only [ho,resolve,invoke,builtin,Sem.run_bind,Sem.run_pure,Result.andThen_ok,List.map_toArray,List.map_cons,List.map_nil,hs,hx,hr];refine hK v' w' ?_ h3;unfold OwZ;rw [List.length_append,List.map_append];exact h2
theorem noPanic_ok {Q:Exit→Act→World→Prop} {a:Act} {w:World} (h:Q .normal a w):NoPanic Q .normal a w:=h
def st11_ops:Array Oper:=#[
 { dst:=some 29,op:=Op.move (Operand.tmp 4),type:=120,pos:= "places.go:60",after:=#[],guard:=none },
 { dst:=some 30,op:=Op.move (Operand.tmp 5),type:=3,pos:= "places.go:60",after:=#[],guard:=none },
 { dst:=some 31,op:=Op.move (Operand.tmp 4),type:=120,pos:= "places.go:60",after:=#[],guard:=none },
 { dst:=some 32,op:=Op.move (Operand.tmp 5),type:=3,pos:= "places.go:60",after:=#[],guard:=none },
 { dst:=some 33,op:=Op.indexAddr 120 (Operand.tmp 31) (Operand.tmp 32),type:=0,pos:= "places.go:60",after:=#[{ on:=2,ground:=Ground.data },{ on:=3,ground:=Ground.data }],guard:=none },
 { dst:=some 34,op:=Op.load 23 (Operand.tmp 33),type:=23,pos:= "places.go:60",after:=#[{ on:=4,ground:=Ground.data }],guard:=none },
 { dst:=some 35,op:=Op.move (Operand.tmp 7),type:=3,pos:= "places.go:60",after:=#[],guard:=none },
 { dst:=some 36,op:=Op.move (Operand.tmp 3),type:=23,pos:= "places.go:60",after:=#[],guard:=none },
 { dst:=some 37,op:=Op.move (Operand.tmp 5),type:=3,pos:= "places.go:60",after:=#[],guard:=none },
 { dst:=some 38,op:=Op.indexAddr 23 (Operand.tmp 36) (Operand.tmp 37),type:=0,pos:= "places.go:60",after:=#[{ on:=7,ground:=Ground.data },{ on:=8,ground:=Ground.data }],guard:=none },
 { dst:=some 39,op:=Op.load 3 (Operand.tmp 38),type:=3,pos:= "places.go:60",after:=#[{ on:=9,ground:=Ground.data }],guard:=none },
 { dst:=some 40,op:=Op.binOp BinOp.mul 3 (Operand.tmp 35) (Operand.tmp 39) 3,type:=3,pos:= "places.go:60",after:=#[{ on:=6,ground:=Ground.data },{ on:=10,ground:=Ground.data }],guard:=none },
 { dst:=some 41,op:=Op.buildSlice 23 1 #[(0,Operand.tmp 40)],type:=23,pos:= "places.go:60",after:=#[{ on:=11,ground:=Ground.data }],guard:=none },
 { dst:=some 42,op:=Op.call { callee:=Callee.builtin Builtin.append,args:=#[Operand.tmp 34,Operand.tmp 41],argTypes:=#[23,23] },type:=23,pos:= "places.go:60",after:=#[{ on:=5,ground:=Ground.data },{ on:=12,ground:=Ground.data }],guard:=none },
 { dst:=some 43,op:=Op.indexAddr 120 (Operand.tmp 29) (Operand.tmp 30),type:=0,pos:= "places.go:60",after:=#[{ on:=0,ground:=Ground.data },{ on:=1,ground:=Ground.data },{ on:=0,ground:=Ground.phase },{ on:=1,ground:=Ground.phase },{ on:=2,ground:=Ground.phase },{ on:=3,ground:=Ground.phase },{ on:=4,ground:=Ground.phase },{ on:=5,ground:=Ground.phase },{ on:=6,ground:=Ground.phase },{ on:=7,ground:=Ground.phase },{ on:=8,ground:=Ground.phase },{ on:=9,ground:=Ground.phase },{ on:=10,ground:=Ground.phase },{ on:=11,ground:=Ground.phase },{ on:=12,ground:=Ground.phase },{ on:=13,ground:=Ground.phase }],guard:=none },
 { dst:=none,op:=Op.store 23 (Operand.tmp 43) (Operand.tmp 42),type:=0,pos:= "places.go:60",after:=#[{ on:=14,ground:=Ground.data },{ on:=13,ground:=Ground.data },{ on:=13,ground:=Ground.chain },{ on:=0,ground:=Ground.phase },{ on:=1,ground:=Ground.phase },{ on:=2,ground:=Ground.phase },{ on:=3,ground:=Ground.phase },{ on:=4,ground:=Ground.phase },{ on:=5,ground:=Ground.phase },{ on:=6,ground:=Ground.phase },{ on:=7,ground:=Ground.phase },{ on:=8,ground:=Ground.phase },{ on:=9,ground:=Ground.phase },{ on:=10,ground:=Ground.phase },{ on:=11,ground:=Ground.phase },{ on:=12,ground:=Ground.phase },{ on:=13,ground:=Ground.phase }],guard:=none }]
section
variable {Q:Exit→Act→World→Prop} {w2 V:World} {n k i sb so sc rl rc B:Nat} {ra:Option Addr} {s p:Int} {vs:Array Value} {xs:List Int} {t0 t1 t2 t3 t4 t5 t6 t7 t8 t9 t10 t11 t12 t13 t14 t15 t16 t17 t18 t19 t20 t21 t22 t23 t24 t25 t26 t27 t28 t29 t30 t31 t32 t33 t34 t35 t36 t37 t38 t39 t40 t41 t42 t43 t44 t45 t46:Value} {r:List Value} {ds:List Deferred}
theorem st11 (hk:k<n) (hV:Below w2.heap.size w2 V) (cs:w2.cell? ⟨sb,so+k,none⟩=some (.int .i64 s)) (hsb:sb<w2.heap.size) (hO:BoxA V w2.heap.size 23 vs) (hv:vs[k]? = some (.slice ra rl rc)) (hw:OwZ B V (.slice ra rl rc) xs) (hB:w2.heap.size<B) (hBV:B≤V.heap.size) (hl:xs.length≤1000000) (hp:IntKind.i64.wrap ((i:Int)*s)=p)
    (hQ:∀ v' Va w',Below V.heap.size V Va→OwZ B Va (.slice ra rl rc) xs→Va.grownBy w' (Value.slice ra rl rc).ownBlock→OwZ B w' v' (xs++[p])→Q .normal { tmps:=(t0 :: t1 :: t2 :: (.slice (some ⟨sb,so,none⟩) n sc) :: (.slice (some ⟨w2.heap.size,0,none⟩) n n) :: (.int .i64 (k:Int)) :: t6 :: (.int .i64 (i:Int)) :: t8 :: t9 :: t10 :: t11 :: t12 :: t13 :: t14 :: t15 :: t16 :: t17 :: t18 :: t19 :: t20 :: t21 :: t22 :: t23 :: t24 :: t25 :: t26 :: t27 :: t28 :: (.slice (some ⟨w2.heap.size,0,none⟩) n n) :: (.int .i64 (k:Int)) :: (.slice (some ⟨w2.heap.size,0,none⟩) n n) :: (.int .i64 (k:Int)) :: (.pointer (some ⟨w2.heap.size,k,none⟩)) :: (.slice ra rl rc) :: (.int .i64 (i:Int)) :: (.slice (some ⟨sb,so,none⟩) n sc) :: (.int .i64 (k:Int)) :: (.pointer (some ⟨sb,so+k,none⟩)) :: (.int .i64 s) :: (.int .i64 p) :: (.slice (some ⟨V.heap.size,0,none⟩) 1 1) :: v' :: (.pointer (some ⟨w2.heap.size,k,none⟩)) :: t44 :: t45 :: t46 :: r).toArray,defers:=ds } (w'.setCell ⟨w2.heap.size,k,none⟩ v')) :
    wpAnyH Tryz.prog .any st11_ops (NoPanic Q) (fun w=>Below w2.heap.size w2 w) 16 (Array.replicate 16 false) { tmps:=(t0 :: t1 :: t2 :: (.slice (some ⟨sb,so,none⟩) n sc) :: (.slice (some ⟨w2.heap.size,0,none⟩) n n) :: (.int .i64 (k:Int)) :: t6 :: (.int .i64 (i:Int)) :: t8 :: t9 :: t10 :: t11 :: t12 :: t13 :: t14 :: t15 :: t16 :: t17 :: t18 :: t19 :: t20 :: t21 :: t22 :: t23 :: t24 :: t25 :: t26 :: t27 :: t28 :: t29 :: t30 :: t31 :: t32 :: t33 :: t34 :: t35 :: t36 :: t37 :: t38 :: t39 :: t40 :: t41 :: t42 :: t43 :: t44 :: t45 :: t46 :: r).toArray,defers:=ds } V:=by
 have C0:=hO.cell k hv;have ka:=below_alloc V (.cells #[.int .i64 p] 3);have BN:=boxA_new V #[.int .i64 p] 3;have C1:=(hO.below ka hO.lt).cell k hv;have HB2:=hO.below ka hO.lt;have hVa:=hV.trans (ka.mono hV.size);have hwa:=hw.below ka (Nat.le_refl _);have sO:=hO.lt;have hpp:IntKind.i64.wrap (s*(i:Int))=p:=by rw [Int.mul_comm];exact hp
 refine wpAnyH_take (i:=0) (oi:={ dst:=some 29,op:=Op.move (Operand.tmp 4),type:=120,pos:= "places.go:60",after:=#[],guard:=none }) (v:=(.slice (some ⟨w2.heap.size,0,none⟩) n n)) rfl (by kernel_rfl) (by kernel_rfl) (by kernel_rfl) (fun _ _ _ h=>h) (Or.inl ⟨by rfl,(by intro w hSw;go_simp)⟩) (by assumption) ?_;simp only [Act.put,List.setIfInBounds_toArray,List.set_cons_zero,List.set_cons_succ];refine wpAnyH_take (i:=1) (oi:={ dst:=some 30,op:=Op.move (Operand.tmp 5),type:=3,pos:= "places.go:60",after:=#[],guard:=none }) (v:=(.int .i64 (k:Int))) rfl (by kernel_rfl) (by kernel_rfl) (by kernel_rfl) (fun _ _ _ h=>h) (Or.inl ⟨by rfl,(by intro w hSw;go_simp)⟩) (by assumption) ?_;simp only [Act.put,List.setIfInBounds_toArray,List.set_cons_zero,List.set_cons_succ];refine wpAnyH_take (i:=2) (oi:={ dst:=some 31,op:=Op.move (Operand.tmp 4),type:=120,pos:= "places.go:60",after:=#[],guard:=none }) (v:=(.slice (some ⟨w2.heap.size,0,none⟩) n n)) rfl (by kernel_rfl) (by kernel_rfl) (by kernel_rfl) (fun _ _ _ h=>h) (Or.inl ⟨by rfl,(by intro w hSw;go_simp)⟩) (by assumption) ?_;simp only [Act.put,List.setIfInBounds_toArray,List.set_cons_zero,List.set_cons_succ];refine wpAnyH_take (i:=3) (oi:={ dst:=some 32,op:=Op.move (Operand.tmp 5),type:=3,pos:= "places.go:60",after:=#[],guard:=none }) (v:=(.int .i64 (k:Int))) rfl (by kernel_rfl) (by kernel_rfl) (by kernel_rfl) (fun _ _ _ h=>h) (Or.inl ⟨by rfl,(by intro w hSw;go_simp)⟩) (by assumption) ?_;simp only [Act.put,List.setIfInBounds_toArray,List.set_cons_zero,List.set_cons_succ];refine wpAnyH_take (i:=4) (oi:={ dst:=some 33,op:=Op.indexAddr 120 (Operand.tmp 31) (Operand.tmp 32),type:=0,pos:= "places.go:60",after:=#[{ on:=2,ground:=Ground.data },{ on:=3,ground:=Ground.data }],guard:=none }) (v:=(.pointer (some ⟨w2.heap.size,k,none⟩))) rfl (by kernel_rfl) (by kernel_rfl) (by kernel_rfl) (fun _ _ _ h=>h) (Or.inl ⟨by rfl,(by intro w hSw;go_simp)⟩) (by assumption) ?_;simp only [Act.put,List.setIfInBounds_toArray,List.set_cons_zero,List.set_cons_succ];refine wpAnyH_take (i:=6) (oi:={ dst:=some 35,op:=Op.move (Operand.tmp 7),type:=3,pos:= "places.go:60",after:=#[],guard:=none }) (v:=(.int .i64 (i:Int))) rfl (by kernel_rfl) (by kernel_rfl) (by kernel_rfl) (fun _ _ _ h=>h) (Or.inl ⟨by rfl,(by intro w hSw;go_simp)⟩) (by assumption) ?_;simp only [Act.put,List.setIfInBounds_toArray,List.set_cons_zero,List.set_cons_succ];refine wpAnyH_take (i:=7) (oi:={ dst:=some 36,op:=Op.move (Operand.tmp 3),type:=23,pos:= "places.go:60",after:=#[],guard:=none }) (v:=(.slice (some ⟨sb,so,none⟩) n sc)) rfl (by kernel_rfl) (by kernel_rfl) (by kernel_rfl) (fun _ _ _ h=>h) (Or.inl ⟨by rfl,(by intro w hSw;go_simp)⟩) (by assumption) ?_;simp only [Act.put,List.setIfInBounds_toArray,List.set_cons_zero,List.set_cons_succ];refine wpAnyH_take (i:=8) (oi:={ dst:=some 37,op:=Op.move (Operand.tmp 5),type:=3,pos:= "places.go:60",after:=#[],guard:=none }) (v:=(.int .i64 (k:Int))) rfl (by kernel_rfl) (by kernel_rfl) (by kernel_rfl) (fun _ _ _ h=>h) (Or.inl ⟨by rfl,(by intro w hSw;go_simp)⟩) (by assumption) ?_;simp only [Act.put,List.setIfInBounds_toArray,List.set_cons_zero,List.set_cons_succ];refine wpAnyH_take (i:=9) (oi:={ dst:=some 38,op:=Op.indexAddr 23 (Operand.tmp 36) (Operand.tmp 37),type:=0,pos:= "places.go:60",after:=#[{ on:=7,ground:=Ground.data },{ on:=8,ground:=Ground.data }],guard:=none }) (v:=(.pointer (some ⟨sb,so+k,none⟩))) rfl (by kernel_rfl) (by kernel_rfl) (by kernel_rfl) (fun _ _ _ h=>h) (Or.inl ⟨by rfl,(by intro w hSw;go_simp)⟩) (by assumption) ?_;simp only [Act.put,List.setIfInBounds_toArray,List.set_cons_zero,List.set_cons_succ];refine wpAnyH_take (i:=10) (oi:={ dst:=some 39,op:=Op.load 3 (Operand.tmp 38),type:=3,pos:= "places.go:60",after:=#[{ on:=9,ground:=Ground.data }],guard:=none }) (v:=(.int .i64 s)) rfl (by kernel_rfl) (by kernel_rfl) (by kernel_rfl) (fun _ _ _ h=>h) (Or.inl ⟨by rfl,(by intro w hSw;have cc:=(hSw.cell (p:=⟨sb,so+k,none⟩) hsb).trans cs;go_simp)⟩) (by assumption) ?_
 simp only [Act.put,List.setIfInBounds_toArray,List.set_cons_zero,List.set_cons_succ];refine wpAnyH_take (i:=11) (oi:={ dst:=some 40,op:=Op.binOp BinOp.mul 3 (Operand.tmp 35) (Operand.tmp 39) 3,type:=3,pos:= "places.go:60",after:=#[{ on:=6,ground:=Ground.data },{ on:=10,ground:=Ground.data }],guard:=none }) (v:=(.int .i64 p)) rfl (by kernel_rfl) (by kernel_rfl) (by kernel_rfl) (fun _ _ _ h=>h) (Or.inl ⟨by rfl,(by intro w hSw;go_simp)⟩) (by assumption) ?_;simp only [Act.put,List.setIfInBounds_toArray,List.set_cons_zero,List.set_cons_succ];refine wpAnyH_ready (rs:=[5,12]) (by kernel_rfl) (by simp) ?_;refine AllReadyH.cons (o:={ dst:=some 34,op:=Op.load 23 (Operand.tmp 33),type:=23,pos:= "places.go:60",after:=#[{ on:=4,ground:=Ground.data }],guard:=none }) rfl (fun K hK => ?_) (AllReadyH.cons (o:={ dst:=some 41,op:=Op.buildSlice 23 1 #[(0,Operand.tmp 40)],type:=23,pos:= "places.go:60",after:=#[{ on:=11,ground:=Ground.data }],guard:=none }) rfl (fun K hK => ?_) AllReadyH.nil)
 · go_simp
   refine hK.out _ _ hV (fun _ => ?_);clear hK K;refine wpAnyH_ready (rs:=[12]) (by kernel_rfl) (by simp) ?_;refine AllReadyH.cons (o:={ dst:=some 41,op:=Op.buildSlice 23 1 #[(0,Operand.tmp 40)],type:=23,pos:= "places.go:60",after:=#[{ on:=11,ground:=Ground.data }],guard:=none }) rfl (fun K hK => ?_) AllReadyH.nil;go_simp
   refine hK.out _ _ hVa (fun _ => ?_);clear hK K;refine wpAnyH_ready (rs:=[13]) (by kernel_rfl) (by simp) ?_;refine AllReadyH.cons (o:={ dst:=some 42,op:=Op.call { callee:=Callee.builtin Builtin.append,args:=#[Operand.tmp 34,Operand.tmp 41],argTypes:=#[23,23] },type:=23,pos:= "places.go:60",after:=#[{ on:=5,ground:=Ground.data },{ on:=12,ground:=Ground.data }],guard:=none }) rfl (fun K hK => ?_) AllReadyH.nil;refine step_append_Z (base:=B) (xs:=xs) (k:=p) (by rfl) _ _ (by rfl) (by rfl) (by rfl) hwa BN hl (by have:=ka.size;omega) ?_;intro v' w' hown hgr;obtain ⟨a4,c4,rfl⟩:=owZ_form hown;obtain ⟨ln,hln⟩:∃ ln,(xs++[p]).length=ln:=⟨_,rfl⟩;rw [hln] at hown ⊢;clear hln;have BX:=boxA_grown HB2 hgr (fun e=>by have:=(hw.block _ e).1;omega);have hW:=hVa.grown hgr hVa.size (fun k e=>by have:=(hw.block k e).1;omega);have C2:=BX.cell k hv;have F2:=BX.frozen k;have HQ:Hid _:=hQ _ _ w' ka hwa hgr hown;clear hown hgr hQ hwa;simp only [Act.put,List.setIfInBounds_toArray,List.set_cons_zero,List.set_cons_succ];refine hK.out _ _ hW (fun _ => ?_);clear hK K;refine wpAnyH_take (i:=14) (oi:={ dst:=some 43,op:=Op.indexAddr 120 (Operand.tmp 29) (Operand.tmp 30),type:=0,pos:= "places.go:60",after:=#[{ on:=0,ground:=Ground.data },{ on:=1,ground:=Ground.data },{ on:=0,ground:=Ground.phase },{ on:=1,ground:=Ground.phase },{ on:=2,ground:=Ground.phase },{ on:=3,ground:=Ground.phase },{ on:=4,ground:=Ground.phase },{ on:=5,ground:=Ground.phase },{ on:=6,ground:=Ground.phase },{ on:=7,ground:=Ground.phase },{ on:=8,ground:=Ground.phase },{ on:=9,ground:=Ground.phase },{ on:=10,ground:=Ground.phase },{ on:=11,ground:=Ground.phase },{ on:=12,ground:=Ground.phase },{ on:=13,ground:=Ground.phase }],guard:=none }) (v:=(.pointer (some ⟨w2.heap.size,k,none⟩))) rfl (by kernel_rfl) (by kernel_rfl) (by kernel_rfl) (fun _ _ _ h=>h) (Or.inl ⟨by rfl,(by intro w hSw;go_simp)⟩) (by assumption) ?_;simp only [Act.put,List.setIfInBounds_toArray,List.set_cons_zero,List.set_cons_succ];refine wpAnyH_ready (rs:=[15]) (by kernel_rfl) (by simp) ?_;refine AllReadyH.cons (o:={ dst:=none,op:=Op.store 23 (Operand.tmp 43) (Operand.tmp 42),type:=0,pos:= "places.go:60",after:=#[{ on:=14,ground:=Ground.data },{ on:=13,ground:=Ground.data },{ on:=13,ground:=Ground.chain },{ on:=0,ground:=Ground.phase },{ on:=1,ground:=Ground.phase },{ on:=2,ground:=Ground.phase },{ on:=3,ground:=Ground.phase },{ on:=4,ground:=Ground.phase },{ on:=5,ground:=Ground.phase },{ on:=6,ground:=Ground.phase },{ on:=7,ground:=Ground.phase },{ on:=8,ground:=Ground.phase },{ on:=9,ground:=Ground.phase },{ on:=10,ground:=Ground.phase },{ on:=11,ground:=Ground.phase },{ on:=12,ground:=Ground.phase },{ on:=13,ground:=Ground.phase }],guard:=none }) rfl (fun K hK => ?_) AllReadyH.nil;go_simp
   refine hK.out _ _ (hW.setCell (p:=⟨w2.heap.size,k,none⟩) (Nat.le_refl _) _) (fun _ => ?_);exact wpAnyH_done (by kernel_rfl) (noPanic_ok HQ.out) _
 · go_simp
   refine hK.out _ _ hVa (fun _ => ?_);clear hK K;refine wpAnyH_ready (rs:=[5]) (by kernel_rfl) (by simp) ?_;refine AllReadyH.cons (o:={ dst:=some 34,op:=Op.load 23 (Operand.tmp 33),type:=23,pos:= "places.go:60",after:=#[{ on:=4,ground:=Ground.data }],guard:=none }) rfl (fun K hK => ?_) AllReadyH.nil;go_simp
   refine hK.out _ _ hVa (fun _ => ?_);clear hK K;refine wpAnyH_ready (rs:=[13]) (by kernel_rfl) (by simp) ?_;refine AllReadyH.cons (o:={ dst:=some 42,op:=Op.call { callee:=Callee.builtin Builtin.append,args:=#[Operand.tmp 34,Operand.tmp 41],argTypes:=#[23,23] },type:=23,pos:= "places.go:60",after:=#[{ on:=5,ground:=Ground.data },{ on:=12,ground:=Ground.data }],guard:=none }) rfl (fun K hK => ?_) AllReadyH.nil;refine step_append_Z (base:=B) (xs:=xs) (k:=p) (by rfl) _ _ (by rfl) (by rfl) (by rfl) hwa BN hl (by have:=ka.size;omega) ?_;intro v' w' hown hgr;obtain ⟨a4,c4,rfl⟩:=owZ_form hown;obtain ⟨ln,hln⟩:∃ ln,(xs++[p]).length=ln:=⟨_,rfl⟩;rw [hln] at hown ⊢;clear hln;have BX:=boxA_grown HB2 hgr (fun e=>by have:=(hw.block _ e).1;omega);have hW:=hVa.grown hgr hVa.size (fun k e=>by have:=(hw.block k e).1;omega);have C2:=BX.cell k hv;have F2:=BX.frozen k;have HQ:Hid _:=hQ _ _ w' ka hwa hgr hown;clear hown hgr hQ hwa;simp only [Act.put,List.setIfInBounds_toArray,List.set_cons_zero,List.set_cons_succ];refine hK.out _ _ hW (fun _ => ?_);clear hK K;refine wpAnyH_take (i:=14) (oi:={ dst:=some 43,op:=Op.indexAddr 120 (Operand.tmp 29) (Operand.tmp 30),type:=0,pos:= "places.go:60",after:=#[{ on:=0,ground:=Ground.data },{ on:=1,ground:=Ground.data },{ on:=0,ground:=Ground.phase },{ on:=1,ground:=Ground.phase },{ on:=2,ground:=Ground.phase },{ on:=3,ground:=Ground.phase },{ on:=4,ground:=Ground.phase },{ on:=5,ground:=Ground.phase },{ on:=6,ground:=Ground.phase },{ on:=7,ground:=Ground.phase },{ on:=8,ground:=Ground.phase },{ on:=9,ground:=Ground.phase },{ on:=10,ground:=Ground.phase },{ on:=11,ground:=Ground.phase },{ on:=12,ground:=Ground.phase },{ on:=13,ground:=Ground.phase }],guard:=none }) (v:=(.pointer (some ⟨w2.heap.size,k,none⟩))) rfl (by kernel_rfl) (by kernel_rfl) (by kernel_rfl) (fun _ _ _ h=>h) (Or.inl ⟨by rfl,(by intro w hSw;go_simp)⟩) (by assumption) ?_;simp only [Act.put,List.setIfInBounds_toArray,List.set_cons_zero,List.set_cons_succ];refine wpAnyH_ready (rs:=[15]) (by kernel_rfl) (by simp) ?_;refine AllReadyH.cons (o:={ dst:=none,op:=Op.store 23 (Operand.tmp 43) (Operand.tmp 42),type:=0,pos:= "places.go:60",after:=#[{ on:=14,ground:=Ground.data },{ on:=13,ground:=Ground.data },{ on:=13,ground:=Ground.chain },{ on:=0,ground:=Ground.phase },{ on:=1,ground:=Ground.phase },{ on:=2,ground:=Ground.phase },{ on:=3,ground:=Ground.phase },{ on:=4,ground:=Ground.phase },{ on:=5,ground:=Ground.phase },{ on:=6,ground:=Ground.phase },{ on:=7,ground:=Ground.phase },{ on:=8,ground:=Ground.phase },{ on:=9,ground:=Ground.phase },{ on:=10,ground:=Ground.phase },{ on:=11,ground:=Ground.phase },{ on:=12,ground:=Ground.phase },{ on:=13,ground:=Ground.phase }],guard:=none }) rfl (fun K hK => ?_) AllReadyH.nil;go_simp
   refine hK.out _ _ (hW.setCell (p:=⟨w2.heap.size,k,none⟩) (Nat.le_refl _) _) (fun _ => ?_);exact wpAnyH_done (by kernel_rfl) (noPanic_ok HQ.out) _
end
def axT (i:Nat) (s:Int):List Int:=(List.range i).map fun (j:Nat)=>(j:Int)*s
theorem axT_len (i:Nat) (s:Int):(axT i s).length=i:=by simp [axT]
theorem axT_succ (i:Nat) (s:Int):axT (i+1) s=axT i s++[(i:Int)*s]:=by simp [axT,List.range_succ]
theorem axF_T (n s:Int):axF n s=axT n.toNat s:=rfl
def srow (sh:List Int):List Int:=if (0:Int)∈sh then List.replicate sh.length 0 else strF sh
def stepE (sh:List Int):List (List Int):=(List.range sh.length).map fun k=>axF (sh.getD k 0) ((srow sh).getD k 0)
theorem stepE_len (sh:List Int):(stepE sh).length=sh.length:=by simp [stepE]
theorem stepE_get {sh:List Int} {k:Nat} (h:k<sh.length):(stepE sh).getD k []=axF (sh.getD k 0) ((srow sh).getD k 0):=by
 rw [List.getD_eq_getElem?_getD];simp [stepE,h]
theorem srow_len (sh:List Int):(srow sh).length=sh.length:=by
 unfold srow
 split
 · simp
 · exact strF_len sh
theorem srow_in {sh:List Int} (h:ShOK sh):∀ x∈srow sh,0≤x∧x≤4096:=by
 intro x hx;unfold srow at hx
 split at hx
 · rw [List.mem_replicate] at hx;omega
 · exact strF_in h x hx
/-- A row that grows by steps, within the rows. -/
structure InI (w2 wr0 wr:World) (k:Nat) (vs:List Value) (a:Option Addr) (c i:Nat) (s:Int):Prop where
 box:BoxA wr w2.heap.size 23 (vs.set k (.slice a i c)).toArray
 own:OwZ wr0.heap.size wr (.slice a i c) (axT i s)
 bel:Below w2.heap.size w2 wr
 old:∀ g,w2.heap.size<g→g<wr0.heap.size→wr.heap[g]? = wr0.heap[g]?
 size:wr0.heap.size≤wr.heap.size
theorem InI.next {w2 wr0 wr Va w':World} {k c i:Nat} {vs:List Value} {a:Option Addr} {s p:Int} {v':Value} (h:InI w2 wr0 wr k vs a c i s) (h0:w2.heap.size<wr0.heap.size) (ka:Below wr.heap.size wr Va) (hg:Va.grownBy w' (Value.slice a i c).ownBlock) (hv:OwZ wr0.heap.size w' v' (axT i s++[p])) (hp:p=(i:Int)*s) :
    ∃ a' c',v'=.slice a' (i+1) c'∧InI w2 wr0 (w'.setCell ⟨w2.heap.size,k,none⟩ v') k vs a' c' (i+1) s:=by
 obtain ⟨a',c',rfl⟩:=owZ_form hv;rw [hp,← axT_succ,axT_len] at hv;have hl:(axT i s++[p]).length=i+1:=by rw [List.length_append,List.length_singleton,axT_len]
 rw [hl];have hob:=fun g e=>h.own.block g e;have s1:=ka.size;have s2:=hg.size;have s3:=h.size;have BX:=(boxA_grown (h.box.below ka h.box.lt) hg (fun e=>by have:=(hob _ e).1;omega)).putZ k (.slice a' (i+1) c');refine ⟨a',c',rfl,?_,?_,?_,?_,?_⟩
 · rw [List.setIfInBounds_toArray,List.set_set] at BX
   exact BX
 · exact ownsRow_setCell_other hv (fun e=>by have h1:wr0.heap.size≤w2.heap.size:=(row_own hv _ e).1;omega) _
 · exact ((h.bel.trans (ka.mono h.bel.size)).grown hg (by have:=h.bel.size;omega) (fun k e=>by have:=(hob _ e).1;omega)).setCell (p:=⟨w2.heap.size,k,none⟩) (Nat.le_refl _) _
 · intro g h1 h2
   have hne:¬ w2.heap.size=g:=by omega
   have e1:(w'.setCell ⟨w2.heap.size,k,none⟩ (.slice a' (i+1) c')).heap[g]? = w'.heap[g]?:=by simp [World.setCell,Array.getElem?_modify,hne]
   rw [e1,hg.block g (by omega) (fun e=>by have:=(hob g e.symm).1;omega),ka.block g (by omega),h.old g h1 h2]
 · simp [World.setCell];omega
theorem row_in {D D':Nat→Prop} {w w':World} {v:Value} {xs:List Int} (h:RdN D w v xs) (hD:∀ g,D g→D' g∧w'.heap[g]? = w.heap[g]?):RdN D' w' v xs:=h.imp (fun g hg=>(hD g hg).1) (fun g hg=>(hD g hg).2)
/-- The rows up to the k-th are there, the others are none. -/
def OutI (S:List (List Int)) (n k:Nat) (w2 wr:World):Prop:=∃ vs:List Value,vs.length=n∧BoxA wr w2.heap.size 23 vs.toArray∧Below w2.heap.size w2 wr∧(∀ j,j<k→∃ a c,vs[j]? = some (.slice a (S.getD j []).length c)∧RdN (fun g=>w2.heap.size<g∧g<wr.heap.size) wr (.slice a (S.getD j []).length c) (S.getD j []))∧∀ j,k≤j→j<n→vs[j]? = some (.slice none 0 0)
theorem OutI.next {S:List (List Int)} {n k m c:Nat} {w2 wr0 wr:World} {vs:List Value} {a:Option Addr} {s:Int} (hk:k<n) (hl:vs.length=n) (ho:∀ j,j<k→∃ a c,vs[j]? = some (.slice a (S.getD j []).length c)∧RdN (fun g=>w2.heap.size<g∧g<wr0.heap.size) wr0 (.slice a (S.getD j []).length c) (S.getD j [])) (hn:∀ j,k≤j→j<n→vs[j]? = some (.slice none 0 0))
    (h:InI w2 wr0 wr k vs a c m s) (h0:w2.heap.size<wr0.heap.size) (hS:S.getD k []=axT m s) (hin:∀ x∈axT m s,-9223372036854775808≤x∧x≤9223372036854775807):OutI S n (k+1) w2 wr:=by
 refine ⟨vs.set k (.slice a m c),by rw [List.length_set];exact hl,h.box,h.bel,fun j hj => ?_,fun j h1 h2 => ?_⟩
 · by_cases hjk:j=k
   · subst hjk
     refine ⟨a,c,?_,?_⟩
     · rw [hS,axT_len,List.getElem?_set_self (by omega)]
     · rw [hS,axT_len]
       have:=h.own;have e:(axT m s).length=m:=axT_len m s;have r:=OwZ.rd (a:=a) (c:=c) (l:=axT m s) (by rw [e];exact this) hin;rw [e] at r;exact r.imp (fun g hg=>⟨by have:=hg.1;omega,hg.2⟩) (fun _ _=>rfl)
   · obtain ⟨a',c',e1,e2⟩:=ho j (by omega)
     refine ⟨a',c',by rw [List.getElem?_set_ne (Ne.symm hjk)];exact e1,row_in e2 (fun g hg=>⟨⟨hg.1,by have:=h.size;omega⟩,h.old g hg.1 hg.2⟩)⟩
 · rw [List.getElem?_set_ne (by omega)]
   exact hn j (by omega) h2
theorem outI_zero {S:List (List Int)} {n:Nat} (w2:World):OutI S n 0 w2 (w2.alloc (.cells (Array.replicate n (Value.slice none 0 0)) 23)):=by
 refine ⟨List.replicate n (.slice none 0 0),by simp,?_,below_alloc w2 _,fun j hj=>by omega,fun j _ hj=>by simp [hj]⟩;have h:=boxA_new w2 (Array.replicate n (Value.slice none 0 0)) 23;simpa using h
theorem rdN_rep {D:Nat→Prop} {w:World} {g n:Nat} (h:BoxA w g 3 (Array.replicate n (.int .i64 0))) (hD:D g) (hn:n≤100):RdN D w (.slice (some ⟨g,0,none⟩) n n) (List.replicate n 0):=by
 rw [rep_ints] at h;have:=rdN_box (D:=D) h hD (fun x hx=>by rw [List.mem_replicate] at hx;omega) (by simp;omega);rw [List.length_replicate] at this;exact this
theorem steps_any {D:Nat→Prop} {w:World} {x1:Option Addr} {y1:Nat} {sh:List Int} (h:RdN D w (.slice x1 sh.length y1) sh) (hD:∀ g,D g→g<w.heap.size) (hs:ShOK sh) :
    Calls Tryz.prog 98 #[.slice x1 sh.length y1] w fun e w'=>∃ w2,e=.returned (.slice (some ⟨w2.heap.size,0,none⟩) sh.length sh.length)∧Below w.heap.size w w2∧OutI (stepE sh) sh.length sh.length w2 w':=by
 have HR:Hid (RdN D w (.slice x1 sh.length y1) sh):=h;have HD:Hid (∀ g,D g→g<w.heap.size):=hD;have HS:Hid (ShOK sh):=hs;have hrk:sh.length≤8:=size_rank hs.1;have bd:=h.bounds;have C1:=strides_any h hD hs;clear h hD hs;go_enter Tryz.func98,Tryz.ntmps98
 go_wp2_with fail
 refine C1.mono ?_;rintro e w1 ⟨z,u,rfl,hst,k1⟩;have HST:Hid (RdN (Fr w.heap.size w1.heap.size) w1 (.slice z sh.length u) (strF sh)):=hst;have s1:=k1.size;have C2:=isEmpty6_any (HR.out.imp (fun _ h=>h) (Agree.of k1 HD.out));clear C1 hst
 go_wp2_with fail
 refine C2.mono ?_;rintro e w1' ⟨rfl,hw⟩;obtain rfl:=hw.symm;clear C2;have hmr:=make_rows sh.length (by omega);by_cases h0:(0:Int)∈sh
 case' pos=>
  have hd:decide ((0:Int)∈sh)=true:=decide_eq_true h0;have hmk:=make_ints sh.length (by omega);have kz:=below_alloc w1 (.cells (Array.replicate sh.length (Value.int .i64 0)) 3);have Bz:=boxA_new w1 (Array.replicate sh.length (Value.int .i64 0)) 3;have k2:=k1.trans (kz.mono s1);have r2:RdN (Fr w.heap.size (w1.alloc (.cells (Array.replicate sh.length (Value.int .i64 0)) 3)).heap.size) (w1.alloc (.cells (Array.replicate sh.length (Value.int .i64 0)) 3)) (.slice (some ⟨w1.heap.size,0,none⟩) (srow sh).length sh.length) (srow sh):=by
   rw [srow_len];unfold srow;rw [if_pos h0];exact rdN_rep Bz ⟨s1,by simp⟩ (by omega)
  have s2:=kz.size;clear h0 kz Bz;rw [hd];clear hd
  go_wp2_with fail
  have e2:(w1.alloc (.cells (Array.replicate sh.length (Value.int .i64 0)) 3)).heap.size=w1.heap.size+1:=by simp
  generalize hA:w1.alloc (.cells (Array.replicate sh.length (Value.int .i64 0)) 3)=w2 at *;clear hA hmk;rw [← e2];clear e2
 case' neg=>
  have hd:decide ((0:Int)∈sh)=false:=decide_eq_false h0;have k2:=k1;have r2:RdN (Fr w.heap.size w1.heap.size) w1 (.slice z (srow sh).length u) (srow sh):=by
   rw [srow_len];unfold srow;rw [if_neg h0];exact HST.out
  have s2:=s1;clear h0;rw [hd];clear hd
  go_wp2_with fail
  generalize w1=w2 at *
 all_goals
  have OZ:=outI_zero (S:=stepE sh) (n:=sh.length) w2;have s3:(w2.alloc (.cells (Array.replicate sh.length (Value.slice none 0 0)) 23)).heap.size=w2.heap.size+1:=by simp
  generalize hB:w2.alloc (.cells (Array.replicate sh.length (Value.slice none 0 0)) 23)=w3 at *;clear hB hmr
  go_loopw [20] (fun iv wr=>∃ k:Nat,iv=.int .i64 k∧k≤sh.length∧OutI (stepE sh) sh.length k w2 wr∧w2.heap.size<wr.heap.size) (fun iv _=>sh.length - (intOf iv).toNat)
  case atStart=>exact ⟨0,rfl,Nat.zero_le _,OZ,by omega⟩
  case round=>
   obtain ⟨k,rfl,hkl,hO,hsz⟩:=hrel;by_cases hlt:k<sh.length
   · obtain ⟨g,o,ex,hg,hc⟩:=HR.out.ptr (by omega)
     obtain ⟨sb,so,es,hsb,hcs⟩:=RdN.ptr r2 (by rw [srow_len];omega)
     cases ex
     cases es
     obtain ⟨vs,hvl,hbx,hbel,hold,hnil⟩:=hO;have hgw:=HD.out g hg;have c1:=(hbel.cell (p:=⟨g,o+k,none⟩) (by show g<w2.heap.size;omega)).trans ((k2.cell (p:=⟨g,o+k,none⟩) hgw).trans (hc k hlt));have cs:=hcs k (by rw [srow_len];exact hlt);have HSE:Hid ((stepE sh).getD k []=axT (sh.getD k 0).toNat ((srow sh).getD k 0)):=by unfold Hid;rw [stepE_get hlt,axF_T]
     have hm1:sh.getD k 0∈sh:=by rw [List.getD_eq_getElem?_getD,List.getElem?_eq_getElem hlt];exact List.getElem_mem hlt
     have hm2:(srow sh).getD k 0∈srow sh:=by rw [List.getD_eq_getElem?_getD,List.getElem?_eq_getElem (by rw [srow_len];exact hlt)];exact List.getElem_mem _
     have hb1:=HS.out.2.1 _ hm1;have hb2:=srow_in HS.out _ hm2;obtain ⟨m,hm⟩:=Int.eq_ofNat_of_zero_le hb1.1;rw [hm] at c1 hb1 HSE;have HSE2:Hid ((stepE sh).getD k []=axT m ((srow sh).getD k 0)):=by unfold Hid;rw [HSE.out,Int.toNat_natCast]
     have HOLD:Hid (∀ j,j<k→∃ a c,vs[j]? = some (.slice a ((stepE sh).getD j []).length c)∧RdN (fun g=>w2.heap.size<g∧g<wr.heap.size) wr (.slice a ((stepE sh).getD j []).length c) ((stepE sh).getD j [])):=hold;have HNIL:Hid (∀ j,k≤j→j<sh.length→vs[j]? = some (.slice none 0 0)):=hnil;clear hm1 hm2 hm HSE hc hcs hold hnil;obtain ⟨s,hs⟩:∃ s,(srow sh).getD k 0=s:=⟨_,rfl⟩;rw [hs] at cs hb2 HSE2;clear hs;generalize wr=wo at *;have hi0:InI w2 wo wo k vs none 0 0 s:=⟨by
      have e:vs.set k (.slice none 0 0)=vs:=by
       apply List.ext_getElem?;intro q;by_cases hq:q=k
       · subst hq;rw [List.getElem?_set_self (by omega),HNIL.out q (Nat.le_refl _) hlt]
       · rw [List.getElem?_set_ne (Ne.symm hq)]
      rw [e];exact hbx,owZ_nil _ _,hbel,fun _ _ _=>rfl,Nat.le_refl _⟩
     go_wp2_with fail
     go_loopw [26] (fun iv wi=>∃ i:Nat,iv=.int .i64 i∧i≤m∧∃ a c,InI w2 wo wi k vs a c i s) (fun iv _=>m - (intOf iv).toNat)
     case atStart=>exact ⟨0,rfl,Nat.zero_le _,none,0,hi0⟩
     case round=>
      obtain ⟨i,rfl,hil,a,c,hI⟩:=hrel;by_cases hlti:i<m
      · have hprod:0≤(i:Int)*s∧(i:Int)*s≤16777216:=by
         refine ⟨Int.mul_nonneg (by omega) hb2.1,?_⟩;have h1:(i:Int)*s≤4096*4096:=Int.mul_le_mul (by omega) hb2.2 hb2.1 (by omega);omega
        have hwp:IntKind.i64.wrap ((i:Int)*s)=(i:Int)*s:=by rw [IntKind.wrap_i64];omega
        have HI:Hid (InI w2 wo wr k vs a c i s):=hI;have hvk:((vs.set k (.slice a i c)).toArray)[k]? = some (.slice a i c):=by rw [List.getElem?_toArray,List.getElem?_set_self (by rw [hvl];exact hlt)]
        have HVK:Hid (((vs.set k (.slice a i c)).toArray)[k]? = some (.slice a i c)):=hvk;clear hI hvk
        go_wp2_with fail
        refine wp_region_noPanic ?_;refine wp_region_held (S:=fun u=>Below w2.heap.size w2 u) (by kernel_rfl) ?_;refine st11 (V:=wr.drew) (p:=(i:Int)*s) (xs:=axT i s) hlt ⟨HI.out.bel.os,HI.out.bel.tape,HI.out.bel.output,HI.out.bel.size,HI.out.bel.block⟩ cs (by have:=hsb.2;omega) HI.out.box HVK.out HI.out.own hsz HI.out.size (by rw [axT_len];omega) hwp ?_;intro v' Va w' ka hva hgr hown;obtain ⟨a',c',rfl,hI'⟩:=HI.out.next hsz (Va:=Va) (w':=w') (v':=v') ⟨ka.os,ka.tape,ka.output,ka.size,ka.block⟩ hgr hown rfl;have HI2:Hid _:=hI';clear hI' hown hgr hva ka;go_wp2
        go_roundw
        case rel=>exact ⟨i+1,by go_num,by omega,a',c',HI2.out⟩
        case measure=>simp [intOf];omega
      · obtain rfl:i=m:=by omega
        have hN:=OutI.next hlt hvl HOLD.out HNIL.out hI hsz HSE2.out (fun x hx=>by
         obtain ⟨q,hq,rfl⟩:=List.mem_map.1 hx;rw [List.mem_range] at hq;have h0:0≤(q:Int)*s:=Int.mul_nonneg (by omega) hb2.1;have h1:(q:Int)*s≤4096*4096:=Int.mul_le_mul (by omega) hb2.2 hb2.1 (by omega);omega)
        have hsz2:=hI.size;clear hI;go_wp2
        go_roundw
        case rel=>exact ⟨k+1,by go_num,by omega,hN,by omega⟩
        case measure=>simp [intOf];omega
   · obtain rfl:k=sh.length:=by omega
     go_wp2
     go_ret
     exact ⟨w2,rfl,k2,hO⟩
end Go.Proofs.YtheaeggecpfcbaaGreat
