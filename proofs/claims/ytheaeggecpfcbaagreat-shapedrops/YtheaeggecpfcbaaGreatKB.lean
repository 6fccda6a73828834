/- array.Enclose of a right array. -/
import Derived.Test.YtheaeggecpfcbaaGreatK12
import Derived.Test.YtheaeggecpfcbaaGreatK11
set_option maxRecDepth 100000
set_option maxHeartbeats 16000000
set_option linter.unusedVariables false
set_option linter.unusedSimpArgs false
namespace Go.Proofs.YtheaeggecpfcbaaGreat
section
open Go.RowKit
section
variable {D:Nat→Prop} {f:Nat} {W:World} {x1:Option Addr} {n1 y1:Nat} {x2:Option Addr} {n2 y2:Nat} {t:Tr}
end
section
variable {w:World} {x:IV}
end
section
variable {D:Nat→Prop} {f:Nat} {w:World} {x:IV} {t:Tr}
end
end
section
open Go.RowKit Go.Shelf
attribute [local go_sem] Oper.semAt_some
def eachT_ops:Array Oper:=#[
 { dst:=some 9,op:=Op.load 22 (Operand.tmp 5),type:=22,pos:= "array.go:135",after:=#[],guard:=none },
 { dst:=some 10,op:=Op.load 53 (Operand.tmp 2),type:=53,pos:= "array.go:135",after:=#[],guard:=none },
 { dst:=some 11,op:=Op.load 68 (Operand.tmp 6),type:=68,pos:= "array.go:135",after:=#[],guard:=none },
 { dst:=some 12,op:=Op.call { callee:=Callee.value (Operand.tmp 10),args:=#[Operand.tmp 11],argTypes:=#[68] },type:=68,pos:= "array.go:135",after:=#[{ on:=1,ground:=Ground.data },{ on:=2,ground:=Ground.data }],guard:=none },
 { dst:=some 13,op:=Op.buildSlice 22 1 #[(0,Operand.tmp 12)],type:=22,pos:= "array.go:135",after:=#[{ on:=3,ground:=Ground.data }],guard:=none },
 { dst:=some 14,op:=Op.call { callee:=Callee.builtin Builtin.append,args:=#[Operand.tmp 9,Operand.tmp 13],argTypes:=#[22,22] },type:=22,pos:= "array.go:135",after:=#[{ on:=0,ground:=Ground.data },{ on:=4,ground:=Ground.data },{ on:=3,ground:=Ground.chain }],guard:=none },
 { dst:=none,op:=Op.store 22 (Operand.tmp 5) (Operand.tmp 14),type:=0,pos:= "array.go:135",after:=#[{ on:=5,ground:=Ground.data },{ on:=5,ground:=Ground.chain },{ on:=0,ground:=Ground.phase },{ on:=1,ground:=Ground.phase },{ on:=2,ground:=Ground.phase },{ on:=3,ground:=Ground.phase },{ on:=4,ground:=Ground.phase },{ on:=5,ground:=Ground.phase }],guard:=none }]
theorem info_item4T:(Tryz.prog.info? 68).map (fun i=>(i.zero,i.size,i.bytes))=some (some (.agg #[.int .u8 0,.bool false,.slice none 0 0,.slice none 0 0,.int .i32 0,.slice none 0 0]),6,96):=by kernel_rfl
section
variable {Q:Exit→Act→World→Prop} {l N f i d3 Z Wk O Bx:Nat} {b3:Option Addr} {W wa:World} {x y:IV} {t:Tr} {xs:List Value} {t0 t1 t2 t3 t4 t5 t6 t7 t8 t9 t10 t11 t12 t13 t14 t15:Value} {r:List Value} {ds:List Deferred}
theorem eachT_s51 (HO:W.ownsRow Z 68 6 (.slice b3 i d3) i xs) (BO:BoxA W O 22 #[.slice b3 i d3]) (BW:BoxA W Wk 53 #[.func (.func 20) #[] #[]]) (BX:BoxA W Bx 68 #[.int .u8 x.k,.bool x.b,.slice x.a1 x.n1 x.c1,.slice x.a2 x.n2 x.c2,.int .i32 x.c,.slice x.a3 x.n3 x.c3]) (lO:O<Z) (lZ:Z≤W.heap.size) (hi:(i+1)*96≤140737488355328) (hQ:∀ (y:IV) (wa:World) (b4:Option Addr) (d4:Nat) (w2:World),IsIt f (Fr W.heap.size wa.heap.size) wa y t→Below W.heap.size W wa→w2.ownsRow Z 68 6 (.slice b4 (i+1) d4) (i+1) (xs++[.int .u8 y.k,.bool y.b,.slice y.a1 y.n1 y.c1,.slice y.a2 y.n2 y.c2,.int .i32 y.c,.slice y.a3 y.n3 y.c3])→(wa.alloc (.cells #[.int .u8 y.k,.bool y.b,.slice y.a1 y.n1 y.c1,.slice y.a2 y.n2 y.c2,.int .i32 y.c,.slice y.a3 y.n3 y.c3] 68)).grownBy w2 (Value.slice b3 i d3).ownBlock→((Value.slice b4 (i+1) d4).ownBlock=(Value.slice b3 i d3).ownBlock∨(Value.slice b4 (i+1) d4).ownBlock=some (wa.alloc (.cells #[.int .u8 y.k,.bool y.b,.slice y.a1 y.n1 y.c1,.slice y.a2 y.n2 y.c2,.int .i32 y.c,.slice y.a3 y.n3 y.c3] 68)).heap.size)→Q .normal { tmps:=(t0 :: t1 :: (.pointer (some ⟨Wk,0,none⟩)) :: t3 :: t4 :: (.pointer (some ⟨O,0,none⟩)) :: (.pointer (some ⟨Bx,0,none⟩)) :: t7 :: t8 :: (.slice b3 i d3) :: (.func (.func 20) #[] #[]) :: (.agg #[.int .u8 x.k,.bool x.b,.slice x.a1 x.n1 x.c1,.slice x.a2 x.n2 x.c2,.int .i32 x.c,.slice x.a3 x.n3 x.c3]) :: (.agg #[.int .u8 y.k,.bool y.b,.slice y.a1 y.n1 y.c1,.slice y.a2 y.n2 y.c2,.int .i32 y.c,.slice y.a3 y.n3 y.c3]) :: (.slice (some ⟨wa.heap.size,0,none⟩) 1 1) :: (.slice b4 (i+1) d4) :: t15 :: r).toArray,defers:=ds } (w2.setCell ⟨O,0,none⟩ (.slice b4 (i+1) d4))) (hI:IsIt f (Fr W.heap.size wa.heap.size) wa y t) (k:Below W.heap.size W wa) :
    wpAnyIn (Fence.wide.inRound l) N Tryz.prog .any eachT_ops Q 2 #[true,true,true,true,true,false,false] { tmps:=(t0 :: t1 :: (.pointer (some ⟨Wk,0,none⟩)) :: t3 :: t4 :: (.pointer (some ⟨O,0,none⟩)) :: (.pointer (some ⟨Bx,0,none⟩)) :: t7 :: t8 :: (.slice b3 i d3) :: (.func (.func 20) #[] #[]) :: (.agg #[.int .u8 x.k,.bool x.b,.slice x.a1 x.n1 x.c1,.slice x.a2 x.n2 x.c2,.int .i32 x.c,.slice x.a3 x.n3 x.c3]) :: (.agg #[.int .u8 y.k,.bool y.b,.slice y.a1 y.n1 y.c1,.slice y.a2 y.n2 y.c2,.int .i32 y.c,.slice y.a3 y.n3 y.c3]) :: (.slice (some ⟨wa.heap.size,0,none⟩) 1 1) :: t14 :: t15 :: r).toArray,defers:=ds } (wa.alloc (.cells #[.int .u8 y.k,.bool y.b,.slice y.a1 y.n1 y.c1,.slice y.a2 y.n2 y.c2,.int .i32 y.c,.slice y.a3 y.n3 y.c3] 68)):=by
 obtain ⟨i0,hi0,hz0,hz1,hz2⟩:=info_parts info_item4T;have sk:=k.size;refine wpAnyIn_ready (rs:=[5]) (by kernel_rfl) (by simp) ?_;refine AllReadyIn.cons (o:={ dst:=some 14,op:=Op.call { callee:=Callee.builtin Builtin.append,args:=#[Operand.tmp 9,Operand.tmp 13],argTypes:=#[22,22] },type:=22,pos:= "array.go:135",after:=#[{ on:=0,ground:=Ground.data },{ on:=4,ground:=Ground.data },{ on:=3,ground:=Ground.chain }],guard:=none }) rfl (fun K hK => ?_) ?_
 · refine stepIn_append_at rfl _ _ 22 rfl Z 68 i0 (.agg #[.int .u8 0,.bool false,.slice none 0 0,.slice none 0 0,.int .i32 0,.slice none 0 0]) 6 96 Tryz.underlying22 hi0 hz0 hz1 hz2 rfl (by decide) _ i xs rfl (row_below HO k (Nat.le_refl _) |>.alloc _) ⟨wa.heap.size,0,none⟩ 1 1 [.int .u8 y.k,.bool y.b,.slice y.a1 y.n1 y.c1,.slice y.a2 y.n2 y.c2,.int .i32 y.c,.slice y.a3 y.n3 y.c3] rfl rfl (cells_new wa #[.int .u8 y.k,.bool y.b,.slice y.a1 y.n1 y.c1,.slice y.a2 y.n2 y.c2,.int .i32 y.c,.slice y.a3 y.n3 y.c3] _) (by intro u hu;simp at hu;rcases hu with rfl | rfl | rfl | rfl | rfl | rfl <;> rfl) (by unfold maxLen;omega) (by omega) (by simp;omega) ?_
   intro v2 w2 hr hgr hvo;obtain ⟨b4,d4,rfl⟩:=row_form3 hr;have HQ:Hid _:=hQ y wa b4 d4 w2 hI k hr hgr hvo;have BN:=boxA_grown ((BO.below k (by omega)).below (below_alloc wa (.cells #[.int .u8 y.k,.bool y.b,.slice y.a1 y.n1 y.c1,.slice y.a2 y.n2 y.c2,.int .i32 y.c,.slice y.a3 y.n3 y.c3] 68)) (by omega)) hgr (fun h=>by have:=(row_own HO _ h).1;omega);have yN:=BN.cell 0 rfl;have fN:=BN.frozen 0;clear hQ hI hr hgr hvo HO BO BW BX;simp only [Act.put,List.setIfInBounds_toArray,List.set_cons_zero,List.set_cons_succ];refine hK _ _ ?_;clear hK K;refine wpAnyIn_ready (rs:=[6]) (by kernel_rfl) (by simp) ?_;refine AllReadyIn.cons (o:={ dst:=none,op:=Op.store 22 (Operand.tmp 5) (Operand.tmp 14),type:=0,pos:= "array.go:135",after:=#[{ on:=5,ground:=Ground.data },{ on:=5,ground:=Ground.chain },{ on:=0,ground:=Ground.phase },{ on:=1,ground:=Ground.phase },{ on:=2,ground:=Ground.phase },{ on:=3,ground:=Ground.phase },{ on:=4,ground:=Ground.phase },{ on:=5,ground:=Ground.phase }],guard:=none }) rfl (fun K hK => ?_) ?_
   · go_simp
     refine hK _ _ ?_;exact wpAnyIn_done (by kernel_rfl) HQ.out _
   exact AllReadyIn.nil
 exact AllReadyIn.nil
theorem eachT_s50 (HO:W.ownsRow Z 68 6 (.slice b3 i d3) i xs) (BO:BoxA W O 22 #[.slice b3 i d3]) (BW:BoxA W Wk 53 #[.func (.func 20) #[] #[]]) (BX:BoxA W Bx 68 #[.int .u8 x.k,.bool x.b,.slice x.a1 x.n1 x.c1,.slice x.a2 x.n2 x.c2,.int .i32 x.c,.slice x.a3 x.n3 x.c3]) (lO:O<Z) (lZ:Z≤W.heap.size) (hi:(i+1)*96≤140737488355328) (hQ:∀ (y:IV) (wa:World) (b4:Option Addr) (d4:Nat) (w2:World),IsIt f (Fr W.heap.size wa.heap.size) wa y t→Below W.heap.size W wa→w2.ownsRow Z 68 6 (.slice b4 (i+1) d4) (i+1) (xs++[.int .u8 y.k,.bool y.b,.slice y.a1 y.n1 y.c1,.slice y.a2 y.n2 y.c2,.int .i32 y.c,.slice y.a3 y.n3 y.c3])→(wa.alloc (.cells #[.int .u8 y.k,.bool y.b,.slice y.a1 y.n1 y.c1,.slice y.a2 y.n2 y.c2,.int .i32 y.c,.slice y.a3 y.n3 y.c3] 68)).grownBy w2 (Value.slice b3 i d3).ownBlock→((Value.slice b4 (i+1) d4).ownBlock=(Value.slice b3 i d3).ownBlock∨(Value.slice b4 (i+1) d4).ownBlock=some (wa.alloc (.cells #[.int .u8 y.k,.bool y.b,.slice y.a1 y.n1 y.c1,.slice y.a2 y.n2 y.c2,.int .i32 y.c,.slice y.a3 y.n3 y.c3] 68)).heap.size)→Q .normal { tmps:=(t0 :: t1 :: (.pointer (some ⟨Wk,0,none⟩)) :: t3 :: t4 :: (.pointer (some ⟨O,0,none⟩)) :: (.pointer (some ⟨Bx,0,none⟩)) :: t7 :: t8 :: (.slice b3 i d3) :: (.func (.func 20) #[] #[]) :: (.agg #[.int .u8 x.k,.bool x.b,.slice x.a1 x.n1 x.c1,.slice x.a2 x.n2 x.c2,.int .i32 x.c,.slice x.a3 x.n3 x.c3]) :: (.agg #[.int .u8 y.k,.bool y.b,.slice y.a1 y.n1 y.c1,.slice y.a2 y.n2 y.c2,.int .i32 y.c,.slice y.a3 y.n3 y.c3]) :: (.slice (some ⟨wa.heap.size,0,none⟩) 1 1) :: (.slice b4 (i+1) d4) :: t15 :: r).toArray,defers:=ds } (w2.setCell ⟨O,0,none⟩ (.slice b4 (i+1) d4))) (hI:IsIt f (Fr W.heap.size wa.heap.size) wa y t) (k:Below W.heap.size W wa) :
    wpAnyIn (Fence.wide.inRound l) N Tryz.prog .any eachT_ops Q 3 #[false,true,true,true,true,false,false] { tmps:=(t0 :: t1 :: (.pointer (some ⟨Wk,0,none⟩)) :: t3 :: t4 :: (.pointer (some ⟨O,0,none⟩)) :: (.pointer (some ⟨Bx,0,none⟩)) :: t7 :: t8 :: t9 :: (.func (.func 20) #[] #[]) :: (.agg #[.int .u8 x.k,.bool x.b,.slice x.a1 x.n1 x.c1,.slice x.a2 x.n2 x.c2,.int .i32 x.c,.slice x.a3 x.n3 x.c3]) :: (.agg #[.int .u8 y.k,.bool y.b,.slice y.a1 y.n1 y.c1,.slice y.a2 y.n2 y.c2,.int .i32 y.c,.slice y.a3 y.n3 y.c3]) :: (.slice (some ⟨wa.heap.size,0,none⟩) 1 1) :: t14 :: t15 :: r).toArray,defers:=ds } (wa.alloc (.cells #[.int .u8 y.k,.bool y.b,.slice y.a1 y.n1 y.c1,.slice y.a2 y.n2 y.c2,.int .i32 y.c,.slice y.a3 y.n3 y.c3] 68)):=by
 refine wpAnyIn_ready (rs:=[0]) (by kernel_rfl) (by simp) ?_;refine AllReadyIn.cons (o:={ dst:=some 9,op:=Op.load 22 (Operand.tmp 5),type:=22,pos:= "array.go:135",after:=#[],guard:=none }) rfl (fun K hK => ?_) ?_
 · have cO:=(show BoxA _ O 22 #[.slice b3 i d3] from ((BO.below k BO.lt).below (below_alloc wa (.cells #[.int .u8 y.k,.bool y.b,.slice y.a1 y.n1 y.c1,.slice y.a2 y.n2 y.c2,.int .i32 y.c,.slice y.a3 y.n3 y.c3] 68)) (by have:=BO.lt;have:=k.size;omega))).cell 0 rfl
   go_simp
   refine hK _ _ ?_;exact eachT_s51 HO BO BW BX lO lZ hi hQ hI k
 exact AllReadyIn.nil
theorem eachT_s41 (HO:W.ownsRow Z 68 6 (.slice b3 i d3) i xs) (BO:BoxA W O 22 #[.slice b3 i d3]) (BW:BoxA W Wk 53 #[.func (.func 20) #[] #[]]) (BX:BoxA W Bx 68 #[.int .u8 x.k,.bool x.b,.slice x.a1 x.n1 x.c1,.slice x.a2 x.n2 x.c2,.int .i32 x.c,.slice x.a3 x.n3 x.c3]) (lO:O<Z) (lZ:Z≤W.heap.size) (hi:(i+1)*96≤140737488355328) (hQ:∀ (y:IV) (wa:World) (b4:Option Addr) (d4:Nat) (w2:World),IsIt f (Fr W.heap.size wa.heap.size) wa y t→Below W.heap.size W wa→w2.ownsRow Z 68 6 (.slice b4 (i+1) d4) (i+1) (xs++[.int .u8 y.k,.bool y.b,.slice y.a1 y.n1 y.c1,.slice y.a2 y.n2 y.c2,.int .i32 y.c,.slice y.a3 y.n3 y.c3])→(wa.alloc (.cells #[.int .u8 y.k,.bool y.b,.slice y.a1 y.n1 y.c1,.slice y.a2 y.n2 y.c2,.int .i32 y.c,.slice y.a3 y.n3 y.c3] 68)).grownBy w2 (Value.slice b3 i d3).ownBlock→((Value.slice b4 (i+1) d4).ownBlock=(Value.slice b3 i d3).ownBlock∨(Value.slice b4 (i+1) d4).ownBlock=some (wa.alloc (.cells #[.int .u8 y.k,.bool y.b,.slice y.a1 y.n1 y.c1,.slice y.a2 y.n2 y.c2,.int .i32 y.c,.slice y.a3 y.n3 y.c3] 68)).heap.size)→Q .normal { tmps:=(t0 :: t1 :: (.pointer (some ⟨Wk,0,none⟩)) :: t3 :: t4 :: (.pointer (some ⟨O,0,none⟩)) :: (.pointer (some ⟨Bx,0,none⟩)) :: t7 :: t8 :: (.slice b3 i d3) :: (.func (.func 20) #[] #[]) :: (.agg #[.int .u8 x.k,.bool x.b,.slice x.a1 x.n1 x.c1,.slice x.a2 x.n2 x.c2,.int .i32 x.c,.slice x.a3 x.n3 x.c3]) :: (.agg #[.int .u8 y.k,.bool y.b,.slice y.a1 y.n1 y.c1,.slice y.a2 y.n2 y.c2,.int .i32 y.c,.slice y.a3 y.n3 y.c3]) :: (.slice (some ⟨wa.heap.size,0,none⟩) 1 1) :: (.slice b4 (i+1) d4) :: t15 :: r).toArray,defers:=ds } (w2.setCell ⟨O,0,none⟩ (.slice b4 (i+1) d4))) (hI:IsIt f (Fr W.heap.size wa.heap.size) wa y t) (k:Below W.heap.size W wa) :
    wpAnyIn (Fence.wide.inRound l) N Tryz.prog .any eachT_ops Q 3 #[true,true,true,true,false,false,false] { tmps:=(t0 :: t1 :: (.pointer (some ⟨Wk,0,none⟩)) :: t3 :: t4 :: (.pointer (some ⟨O,0,none⟩)) :: (.pointer (some ⟨Bx,0,none⟩)) :: t7 :: t8 :: (.slice b3 i d3) :: (.func (.func 20) #[] #[]) :: (.agg #[.int .u8 x.k,.bool x.b,.slice x.a1 x.n1 x.c1,.slice x.a2 x.n2 x.c2,.int .i32 x.c,.slice x.a3 x.n3 x.c3]) :: (.agg #[.int .u8 y.k,.bool y.b,.slice y.a1 y.n1 y.c1,.slice y.a2 y.n2 y.c2,.int .i32 y.c,.slice y.a3 y.n3 y.c3]) :: t13 :: t14 :: t15 :: r).toArray,defers:=ds } wa:=by
 have sk:=k.size;refine wpAnyIn_ready (rs:=[4]) (by kernel_rfl) (by simp) ?_;refine AllReadyIn.cons (o:={ dst:=some 13,op:=Op.buildSlice 22 1 #[(0,Operand.tmp 12)],type:=22,pos:= "array.go:135",after:=#[{ on:=3,ground:=Ground.data }],guard:=none }) rfl (fun K hK => ?_) ?_
 · go_simp
   refine hK _ _ ?_;exact eachT_s51 HO BO BW BX lO lZ hi hQ hI k
 exact AllReadyIn.nil
theorem eachT_s40 (HO:W.ownsRow Z 68 6 (.slice b3 i d3) i xs) (BO:BoxA W O 22 #[.slice b3 i d3]) (BW:BoxA W Wk 53 #[.func (.func 20) #[] #[]]) (BX:BoxA W Bx 68 #[.int .u8 x.k,.bool x.b,.slice x.a1 x.n1 x.c1,.slice x.a2 x.n2 x.c2,.int .i32 x.c,.slice x.a3 x.n3 x.c3]) (lO:O<Z) (lZ:Z≤W.heap.size) (hi:(i+1)*96≤140737488355328) (hQ:∀ (y:IV) (wa:World) (b4:Option Addr) (d4:Nat) (w2:World),IsIt f (Fr W.heap.size wa.heap.size) wa y t→Below W.heap.size W wa→w2.ownsRow Z 68 6 (.slice b4 (i+1) d4) (i+1) (xs++[.int .u8 y.k,.bool y.b,.slice y.a1 y.n1 y.c1,.slice y.a2 y.n2 y.c2,.int .i32 y.c,.slice y.a3 y.n3 y.c3])→(wa.alloc (.cells #[.int .u8 y.k,.bool y.b,.slice y.a1 y.n1 y.c1,.slice y.a2 y.n2 y.c2,.int .i32 y.c,.slice y.a3 y.n3 y.c3] 68)).grownBy w2 (Value.slice b3 i d3).ownBlock→((Value.slice b4 (i+1) d4).ownBlock=(Value.slice b3 i d3).ownBlock∨(Value.slice b4 (i+1) d4).ownBlock=some (wa.alloc (.cells #[.int .u8 y.k,.bool y.b,.slice y.a1 y.n1 y.c1,.slice y.a2 y.n2 y.c2,.int .i32 y.c,.slice y.a3 y.n3 y.c3] 68)).heap.size)→Q .normal { tmps:=(t0 :: t1 :: (.pointer (some ⟨Wk,0,none⟩)) :: t3 :: t4 :: (.pointer (some ⟨O,0,none⟩)) :: (.pointer (some ⟨Bx,0,none⟩)) :: t7 :: t8 :: (.slice b3 i d3) :: (.func (.func 20) #[] #[]) :: (.agg #[.int .u8 x.k,.bool x.b,.slice x.a1 x.n1 x.c1,.slice x.a2 x.n2 x.c2,.int .i32 x.c,.slice x.a3 x.n3 x.c3]) :: (.agg #[.int .u8 y.k,.bool y.b,.slice y.a1 y.n1 y.c1,.slice y.a2 y.n2 y.c2,.int .i32 y.c,.slice y.a3 y.n3 y.c3]) :: (.slice (some ⟨wa.heap.size,0,none⟩) 1 1) :: (.slice b4 (i+1) d4) :: t15 :: r).toArray,defers:=ds } (w2.setCell ⟨O,0,none⟩ (.slice b4 (i+1) d4))) (hI:IsIt f (Fr W.heap.size wa.heap.size) wa y t) (k:Below W.heap.size W wa) :
    wpAnyIn (Fence.wide.inRound l) N Tryz.prog .any eachT_ops Q 4 #[false,true,true,true,false,false,false] { tmps:=(t0 :: t1 :: (.pointer (some ⟨Wk,0,none⟩)) :: t3 :: t4 :: (.pointer (some ⟨O,0,none⟩)) :: (.pointer (some ⟨Bx,0,none⟩)) :: t7 :: t8 :: t9 :: (.func (.func 20) #[] #[]) :: (.agg #[.int .u8 x.k,.bool x.b,.slice x.a1 x.n1 x.c1,.slice x.a2 x.n2 x.c2,.int .i32 x.c,.slice x.a3 x.n3 x.c3]) :: (.agg #[.int .u8 y.k,.bool y.b,.slice y.a1 y.n1 y.c1,.slice y.a2 y.n2 y.c2,.int .i32 y.c,.slice y.a3 y.n3 y.c3]) :: t13 :: t14 :: t15 :: r).toArray,defers:=ds } wa:=by
 have sk:=k.size;refine wpAnyIn_ready (rs:=[0,4]) (by kernel_rfl) (by simp) ?_;refine AllReadyIn.cons (o:={ dst:=some 9,op:=Op.load 22 (Operand.tmp 5),type:=22,pos:= "array.go:135",after:=#[],guard:=none }) rfl (fun K hK => ?_) ?_
 · have cO:=(show BoxA _ O 22 #[.slice b3 i d3] from (BO.below k BO.lt)).cell 0 rfl
   go_simp
   refine hK _ _ ?_;exact eachT_s41 HO BO BW BX lO lZ hi hQ hI k
 refine AllReadyIn.cons (o:={ dst:=some 13,op:=Op.buildSlice 22 1 #[(0,Operand.tmp 12)],type:=22,pos:= "array.go:135",after:=#[{ on:=3,ground:=Ground.data }],guard:=none }) rfl (fun K hK => ?_) ?_
 · go_simp
   refine hK _ _ ?_;exact eachT_s50 HO BO BW BX lO lZ hi hQ hI k
 exact AllReadyIn.nil
theorem eachT_s31 (HO:W.ownsRow Z 68 6 (.slice b3 i d3) i xs) (BO:BoxA W O 22 #[.slice b3 i d3]) (BW:BoxA W Wk 53 #[.func (.func 20) #[] #[]]) (BX:BoxA W Bx 68 #[.int .u8 x.k,.bool x.b,.slice x.a1 x.n1 x.c1,.slice x.a2 x.n2 x.c2,.int .i32 x.c,.slice x.a3 x.n3 x.c3]) (lO:O<Z) (lZ:Z≤W.heap.size) (hi:(i+1)*96≤140737488355328) (hQ:∀ (y:IV) (wa:World) (b4:Option Addr) (d4:Nat) (w2:World),IsIt f (Fr W.heap.size wa.heap.size) wa y t→Below W.heap.size W wa→w2.ownsRow Z 68 6 (.slice b4 (i+1) d4) (i+1) (xs++[.int .u8 y.k,.bool y.b,.slice y.a1 y.n1 y.c1,.slice y.a2 y.n2 y.c2,.int .i32 y.c,.slice y.a3 y.n3 y.c3])→(wa.alloc (.cells #[.int .u8 y.k,.bool y.b,.slice y.a1 y.n1 y.c1,.slice y.a2 y.n2 y.c2,.int .i32 y.c,.slice y.a3 y.n3 y.c3] 68)).grownBy w2 (Value.slice b3 i d3).ownBlock→((Value.slice b4 (i+1) d4).ownBlock=(Value.slice b3 i d3).ownBlock∨(Value.slice b4 (i+1) d4).ownBlock=some (wa.alloc (.cells #[.int .u8 y.k,.bool y.b,.slice y.a1 y.n1 y.c1,.slice y.a2 y.n2 y.c2,.int .i32 y.c,.slice y.a3 y.n3 y.c3] 68)).heap.size)→Q .normal { tmps:=(t0 :: t1 :: (.pointer (some ⟨Wk,0,none⟩)) :: t3 :: t4 :: (.pointer (some ⟨O,0,none⟩)) :: (.pointer (some ⟨Bx,0,none⟩)) :: t7 :: t8 :: (.slice b3 i d3) :: (.func (.func 20) #[] #[]) :: (.agg #[.int .u8 x.k,.bool x.b,.slice x.a1 x.n1 x.c1,.slice x.a2 x.n2 x.c2,.int .i32 x.c,.slice x.a3 x.n3 x.c3]) :: (.agg #[.int .u8 y.k,.bool y.b,.slice y.a1 y.n1 y.c1,.slice y.a2 y.n2 y.c2,.int .i32 y.c,.slice y.a3 y.n3 y.c3]) :: (.slice (some ⟨wa.heap.size,0,none⟩) 1 1) :: (.slice b4 (i+1) d4) :: t15 :: r).toArray,defers:=ds } (w2.setCell ⟨O,0,none⟩ (.slice b4 (i+1) d4))) (hc:∀ N,CallsIn (Fence.wide.inRound l) N Tryz.prog 20 #[.agg #[.int .u8 x.k,.bool x.b,.slice x.a1 x.n1 x.c1,.slice x.a2 x.n2 x.c2,.int .i32 x.c,.slice x.a3 x.n3 x.c3]] W fun e w2=>∃ y:IV,e=.returned (.agg #[.int .u8 y.k,.bool y.b,.slice y.a1 y.n1 y.c1,.slice y.a2 y.n2 y.c2,.int .i32 y.c,.slice y.a3 y.n3 y.c3])∧IsIt f (Fr W.heap.size w2.heap.size) w2 y t∧Below W.heap.size W w2) :
    wpAnyIn (Fence.wide.inRound l) N Tryz.prog .any eachT_ops Q 4 #[true,true,true,false,false,false,false] { tmps:=(t0 :: t1 :: (.pointer (some ⟨Wk,0,none⟩)) :: t3 :: t4 :: (.pointer (some ⟨O,0,none⟩)) :: (.pointer (some ⟨Bx,0,none⟩)) :: t7 :: t8 :: (.slice b3 i d3) :: (.func (.func 20) #[] #[]) :: (.agg #[.int .u8 x.k,.bool x.b,.slice x.a1 x.n1 x.c1,.slice x.a2 x.n2 x.c2,.int .i32 x.c,.slice x.a3 x.n3 x.c3]) :: t12 :: t13 :: t14 :: t15 :: r).toArray,defers:=ds } W:=by
 refine wpAnyIn_ready (rs:=[3]) (by kernel_rfl) (by simp) ?_;refine AllReadyIn.cons (o:={ dst:=some 12,op:=Op.call { callee:=Callee.value (Operand.tmp 10),args:=#[Operand.tmp 11],argTypes:=#[68] },type:=68,pos:= "array.go:135",after:=#[{ on:=1,ground:=Ground.data },{ on:=2,ground:=Ground.data }],guard:=none }) rfl (fun K hK => ?_) ?_
 · go_simp
   refine ⟨trivial,(fun h=>by cases h),(hc _).mono ?_⟩;rintro e wa ⟨y,rfl,hI,k⟩;go_simp
   refine hK _ _ ?_;exact eachT_s41 HO BO BW BX lO lZ hi hQ hI k
 exact AllReadyIn.nil
theorem eachT_s30 (HO:W.ownsRow Z 68 6 (.slice b3 i d3) i xs) (BO:BoxA W O 22 #[.slice b3 i d3]) (BW:BoxA W Wk 53 #[.func (.func 20) #[] #[]]) (BX:BoxA W Bx 68 #[.int .u8 x.k,.bool x.b,.slice x.a1 x.n1 x.c1,.slice x.a2 x.n2 x.c2,.int .i32 x.c,.slice x.a3 x.n3 x.c3]) (lO:O<Z) (lZ:Z≤W.heap.size) (hi:(i+1)*96≤140737488355328) (hQ:∀ (y:IV) (wa:World) (b4:Option Addr) (d4:Nat) (w2:World),IsIt f (Fr W.heap.size wa.heap.size) wa y t→Below W.heap.size W wa→w2.ownsRow Z 68 6 (.slice b4 (i+1) d4) (i+1) (xs++[.int .u8 y.k,.bool y.b,.slice y.a1 y.n1 y.c1,.slice y.a2 y.n2 y.c2,.int .i32 y.c,.slice y.a3 y.n3 y.c3])→(wa.alloc (.cells #[.int .u8 y.k,.bool y.b,.slice y.a1 y.n1 y.c1,.slice y.a2 y.n2 y.c2,.int .i32 y.c,.slice y.a3 y.n3 y.c3] 68)).grownBy w2 (Value.slice b3 i d3).ownBlock→((Value.slice b4 (i+1) d4).ownBlock=(Value.slice b3 i d3).ownBlock∨(Value.slice b4 (i+1) d4).ownBlock=some (wa.alloc (.cells #[.int .u8 y.k,.bool y.b,.slice y.a1 y.n1 y.c1,.slice y.a2 y.n2 y.c2,.int .i32 y.c,.slice y.a3 y.n3 y.c3] 68)).heap.size)→Q .normal { tmps:=(t0 :: t1 :: (.pointer (some ⟨Wk,0,none⟩)) :: t3 :: t4 :: (.pointer (some ⟨O,0,none⟩)) :: (.pointer (some ⟨Bx,0,none⟩)) :: t7 :: t8 :: (.slice b3 i d3) :: (.func (.func 20) #[] #[]) :: (.agg #[.int .u8 x.k,.bool x.b,.slice x.a1 x.n1 x.c1,.slice x.a2 x.n2 x.c2,.int .i32 x.c,.slice x.a3 x.n3 x.c3]) :: (.agg #[.int .u8 y.k,.bool y.b,.slice y.a1 y.n1 y.c1,.slice y.a2 y.n2 y.c2,.int .i32 y.c,.slice y.a3 y.n3 y.c3]) :: (.slice (some ⟨wa.heap.size,0,none⟩) 1 1) :: (.slice b4 (i+1) d4) :: t15 :: r).toArray,defers:=ds } (w2.setCell ⟨O,0,none⟩ (.slice b4 (i+1) d4))) (hc:∀ N,CallsIn (Fence.wide.inRound l) N Tryz.prog 20 #[.agg #[.int .u8 x.k,.bool x.b,.slice x.a1 x.n1 x.c1,.slice x.a2 x.n2 x.c2,.int .i32 x.c,.slice x.a3 x.n3 x.c3]] W fun e w2=>∃ y:IV,e=.returned (.agg #[.int .u8 y.k,.bool y.b,.slice y.a1 y.n1 y.c1,.slice y.a2 y.n2 y.c2,.int .i32 y.c,.slice y.a3 y.n3 y.c3])∧IsIt f (Fr W.heap.size w2.heap.size) w2 y t∧Below W.heap.size W w2) :
    wpAnyIn (Fence.wide.inRound l) N Tryz.prog .any eachT_ops Q 5 #[false,true,true,false,false,false,false] { tmps:=(t0 :: t1 :: (.pointer (some ⟨Wk,0,none⟩)) :: t3 :: t4 :: (.pointer (some ⟨O,0,none⟩)) :: (.pointer (some ⟨Bx,0,none⟩)) :: t7 :: t8 :: t9 :: (.func (.func 20) #[] #[]) :: (.agg #[.int .u8 x.k,.bool x.b,.slice x.a1 x.n1 x.c1,.slice x.a2 x.n2 x.c2,.int .i32 x.c,.slice x.a3 x.n3 x.c3]) :: t12 :: t13 :: t14 :: t15 :: r).toArray,defers:=ds } W:=by
 refine wpAnyIn_ready (rs:=[0,3]) (by kernel_rfl) (by simp) ?_;refine AllReadyIn.cons (o:={ dst:=some 9,op:=Op.load 22 (Operand.tmp 5),type:=22,pos:= "array.go:135",after:=#[],guard:=none }) rfl (fun K hK => ?_) ?_
 · have cO:=(show BoxA _ O 22 #[.slice b3 i d3] from BO).cell 0 rfl
   go_simp
   refine hK _ _ ?_;exact eachT_s31 HO BO BW BX lO lZ hi hQ hc
 refine AllReadyIn.cons (o:={ dst:=some 12,op:=Op.call { callee:=Callee.value (Operand.tmp 10),args:=#[Operand.tmp 11],argTypes:=#[68] },type:=68,pos:= "array.go:135",after:=#[{ on:=1,ground:=Ground.data },{ on:=2,ground:=Ground.data }],guard:=none }) rfl (fun K hK => ?_) ?_
 · go_simp
   refine ⟨trivial,(fun h=>by cases h),(hc _).mono ?_⟩;rintro e wa ⟨y,rfl,hI,k⟩;go_simp
   refine hK _ _ ?_;exact eachT_s40 HO BO BW BX lO lZ hi hQ hI k
 exact AllReadyIn.nil
theorem eachT_s21 (HO:W.ownsRow Z 68 6 (.slice b3 i d3) i xs) (BO:BoxA W O 22 #[.slice b3 i d3]) (BW:BoxA W Wk 53 #[.func (.func 20) #[] #[]]) (BX:BoxA W Bx 68 #[.int .u8 x.k,.bool x.b,.slice x.a1 x.n1 x.c1,.slice x.a2 x.n2 x.c2,.int .i32 x.c,.slice x.a3 x.n3 x.c3]) (lO:O<Z) (lZ:Z≤W.heap.size) (hi:(i+1)*96≤140737488355328) (hQ:∀ (y:IV) (wa:World) (b4:Option Addr) (d4:Nat) (w2:World),IsIt f (Fr W.heap.size wa.heap.size) wa y t→Below W.heap.size W wa→w2.ownsRow Z 68 6 (.slice b4 (i+1) d4) (i+1) (xs++[.int .u8 y.k,.bool y.b,.slice y.a1 y.n1 y.c1,.slice y.a2 y.n2 y.c2,.int .i32 y.c,.slice y.a3 y.n3 y.c3])→(wa.alloc (.cells #[.int .u8 y.k,.bool y.b,.slice y.a1 y.n1 y.c1,.slice y.a2 y.n2 y.c2,.int .i32 y.c,.slice y.a3 y.n3 y.c3] 68)).grownBy w2 (Value.slice b3 i d3).ownBlock→((Value.slice b4 (i+1) d4).ownBlock=(Value.slice b3 i d3).ownBlock∨(Value.slice b4 (i+1) d4).ownBlock=some (wa.alloc (.cells #[.int .u8 y.k,.bool y.b,.slice y.a1 y.n1 y.c1,.slice y.a2 y.n2 y.c2,.int .i32 y.c,.slice y.a3 y.n3 y.c3] 68)).heap.size)→Q .normal { tmps:=(t0 :: t1 :: (.pointer (some ⟨Wk,0,none⟩)) :: t3 :: t4 :: (.pointer (some ⟨O,0,none⟩)) :: (.pointer (some ⟨Bx,0,none⟩)) :: t7 :: t8 :: (.slice b3 i d3) :: (.func (.func 20) #[] #[]) :: (.agg #[.int .u8 x.k,.bool x.b,.slice x.a1 x.n1 x.c1,.slice x.a2 x.n2 x.c2,.int .i32 x.c,.slice x.a3 x.n3 x.c3]) :: (.agg #[.int .u8 y.k,.bool y.b,.slice y.a1 y.n1 y.c1,.slice y.a2 y.n2 y.c2,.int .i32 y.c,.slice y.a3 y.n3 y.c3]) :: (.slice (some ⟨wa.heap.size,0,none⟩) 1 1) :: (.slice b4 (i+1) d4) :: t15 :: r).toArray,defers:=ds } (w2.setCell ⟨O,0,none⟩ (.slice b4 (i+1) d4))) (hc:∀ N,CallsIn (Fence.wide.inRound l) N Tryz.prog 20 #[.agg #[.int .u8 x.k,.bool x.b,.slice x.a1 x.n1 x.c1,.slice x.a2 x.n2 x.c2,.int .i32 x.c,.slice x.a3 x.n3 x.c3]] W fun e w2=>∃ y:IV,e=.returned (.agg #[.int .u8 y.k,.bool y.b,.slice y.a1 y.n1 y.c1,.slice y.a2 y.n2 y.c2,.int .i32 y.c,.slice y.a3 y.n3 y.c3])∧IsIt f (Fr W.heap.size w2.heap.size) w2 y t∧Below W.heap.size W w2) :
    wpAnyIn (Fence.wide.inRound l) N Tryz.prog .any eachT_ops Q 5 #[true,false,true,false,false,false,false] { tmps:=(t0 :: t1 :: (.pointer (some ⟨Wk,0,none⟩)) :: t3 :: t4 :: (.pointer (some ⟨O,0,none⟩)) :: (.pointer (some ⟨Bx,0,none⟩)) :: t7 :: t8 :: (.slice b3 i d3) :: t10 :: (.agg #[.int .u8 x.k,.bool x.b,.slice x.a1 x.n1 x.c1,.slice x.a2 x.n2 x.c2,.int .i32 x.c,.slice x.a3 x.n3 x.c3]) :: t12 :: t13 :: t14 :: t15 :: r).toArray,defers:=ds } W:=by
 refine wpAnyIn_ready (rs:=[1]) (by kernel_rfl) (by simp) ?_;refine AllReadyIn.cons (o:={ dst:=some 10,op:=Op.load 53 (Operand.tmp 2),type:=53,pos:= "array.go:135",after:=#[],guard:=none }) rfl (fun K hK => ?_) ?_
 · have cW:=BW.cell 0 rfl
   go_simp
   refine hK _ _ ?_;exact eachT_s31 HO BO BW BX lO lZ hi hQ hc
 exact AllReadyIn.nil
theorem eachT_s20 (HO:W.ownsRow Z 68 6 (.slice b3 i d3) i xs) (BO:BoxA W O 22 #[.slice b3 i d3]) (BW:BoxA W Wk 53 #[.func (.func 20) #[] #[]]) (BX:BoxA W Bx 68 #[.int .u8 x.k,.bool x.b,.slice x.a1 x.n1 x.c1,.slice x.a2 x.n2 x.c2,.int .i32 x.c,.slice x.a3 x.n3 x.c3]) (lO:O<Z) (lZ:Z≤W.heap.size) (hi:(i+1)*96≤140737488355328) (hQ:∀ (y:IV) (wa:World) (b4:Option Addr) (d4:Nat) (w2:World),IsIt f (Fr W.heap.size wa.heap.size) wa y t→Below W.heap.size W wa→w2.ownsRow Z 68 6 (.slice b4 (i+1) d4) (i+1) (xs++[.int .u8 y.k,.bool y.b,.slice y.a1 y.n1 y.c1,.slice y.a2 y.n2 y.c2,.int .i32 y.c,.slice y.a3 y.n3 y.c3])→(wa.alloc (.cells #[.int .u8 y.k,.bool y.b,.slice y.a1 y.n1 y.c1,.slice y.a2 y.n2 y.c2,.int .i32 y.c,.slice y.a3 y.n3 y.c3] 68)).grownBy w2 (Value.slice b3 i d3).ownBlock→((Value.slice b4 (i+1) d4).ownBlock=(Value.slice b3 i d3).ownBlock∨(Value.slice b4 (i+1) d4).ownBlock=some (wa.alloc (.cells #[.int .u8 y.k,.bool y.b,.slice y.a1 y.n1 y.c1,.slice y.a2 y.n2 y.c2,.int .i32 y.c,.slice y.a3 y.n3 y.c3] 68)).heap.size)→Q .normal { tmps:=(t0 :: t1 :: (.pointer (some ⟨Wk,0,none⟩)) :: t3 :: t4 :: (.pointer (some ⟨O,0,none⟩)) :: (.pointer (some ⟨Bx,0,none⟩)) :: t7 :: t8 :: (.slice b3 i d3) :: (.func (.func 20) #[] #[]) :: (.agg #[.int .u8 x.k,.bool x.b,.slice x.a1 x.n1 x.c1,.slice x.a2 x.n2 x.c2,.int .i32 x.c,.slice x.a3 x.n3 x.c3]) :: (.agg #[.int .u8 y.k,.bool y.b,.slice y.a1 y.n1 y.c1,.slice y.a2 y.n2 y.c2,.int .i32 y.c,.slice y.a3 y.n3 y.c3]) :: (.slice (some ⟨wa.heap.size,0,none⟩) 1 1) :: (.slice b4 (i+1) d4) :: t15 :: r).toArray,defers:=ds } (w2.setCell ⟨O,0,none⟩ (.slice b4 (i+1) d4))) (hc:∀ N,CallsIn (Fence.wide.inRound l) N Tryz.prog 20 #[.agg #[.int .u8 x.k,.bool x.b,.slice x.a1 x.n1 x.c1,.slice x.a2 x.n2 x.c2,.int .i32 x.c,.slice x.a3 x.n3 x.c3]] W fun e w2=>∃ y:IV,e=.returned (.agg #[.int .u8 y.k,.bool y.b,.slice y.a1 y.n1 y.c1,.slice y.a2 y.n2 y.c2,.int .i32 y.c,.slice y.a3 y.n3 y.c3])∧IsIt f (Fr W.heap.size w2.heap.size) w2 y t∧Below W.heap.size W w2) :
    wpAnyIn (Fence.wide.inRound l) N Tryz.prog .any eachT_ops Q 6 #[false,false,true,false,false,false,false] { tmps:=(t0 :: t1 :: (.pointer (some ⟨Wk,0,none⟩)) :: t3 :: t4 :: (.pointer (some ⟨O,0,none⟩)) :: (.pointer (some ⟨Bx,0,none⟩)) :: t7 :: t8 :: t9 :: t10 :: (.agg #[.int .u8 x.k,.bool x.b,.slice x.a1 x.n1 x.c1,.slice x.a2 x.n2 x.c2,.int .i32 x.c,.slice x.a3 x.n3 x.c3]) :: t12 :: t13 :: t14 :: t15 :: r).toArray,defers:=ds } W:=by
 refine wpAnyIn_ready (rs:=[0,1]) (by kernel_rfl) (by simp) ?_;refine AllReadyIn.cons (o:={ dst:=some 9,op:=Op.load 22 (Operand.tmp 5),type:=22,pos:= "array.go:135",after:=#[],guard:=none }) rfl (fun K hK => ?_) ?_
 · have cO:=(show BoxA _ O 22 #[.slice b3 i d3] from BO).cell 0 rfl
   go_simp
   refine hK _ _ ?_;exact eachT_s21 HO BO BW BX lO lZ hi hQ hc
 refine AllReadyIn.cons (o:={ dst:=some 10,op:=Op.load 53 (Operand.tmp 2),type:=53,pos:= "array.go:135",after:=#[],guard:=none }) rfl (fun K hK => ?_) ?_
 · have cW:=BW.cell 0 rfl
   go_simp
   refine hK _ _ ?_;exact eachT_s30 HO BO BW BX lO lZ hi hQ hc
 exact AllReadyIn.nil
theorem eachT_s11 (HO:W.ownsRow Z 68 6 (.slice b3 i d3) i xs) (BO:BoxA W O 22 #[.slice b3 i d3]) (BW:BoxA W Wk 53 #[.func (.func 20) #[] #[]]) (BX:BoxA W Bx 68 #[.int .u8 x.k,.bool x.b,.slice x.a1 x.n1 x.c1,.slice x.a2 x.n2 x.c2,.int .i32 x.c,.slice x.a3 x.n3 x.c3]) (lO:O<Z) (lZ:Z≤W.heap.size) (hi:(i+1)*96≤140737488355328) (hQ:∀ (y:IV) (wa:World) (b4:Option Addr) (d4:Nat) (w2:World),IsIt f (Fr W.heap.size wa.heap.size) wa y t→Below W.heap.size W wa→w2.ownsRow Z 68 6 (.slice b4 (i+1) d4) (i+1) (xs++[.int .u8 y.k,.bool y.b,.slice y.a1 y.n1 y.c1,.slice y.a2 y.n2 y.c2,.int .i32 y.c,.slice y.a3 y.n3 y.c3])→(wa.alloc (.cells #[.int .u8 y.k,.bool y.b,.slice y.a1 y.n1 y.c1,.slice y.a2 y.n2 y.c2,.int .i32 y.c,.slice y.a3 y.n3 y.c3] 68)).grownBy w2 (Value.slice b3 i d3).ownBlock→((Value.slice b4 (i+1) d4).ownBlock=(Value.slice b3 i d3).ownBlock∨(Value.slice b4 (i+1) d4).ownBlock=some (wa.alloc (.cells #[.int .u8 y.k,.bool y.b,.slice y.a1 y.n1 y.c1,.slice y.a2 y.n2 y.c2,.int .i32 y.c,.slice y.a3 y.n3 y.c3] 68)).heap.size)→Q .normal { tmps:=(t0 :: t1 :: (.pointer (some ⟨Wk,0,none⟩)) :: t3 :: t4 :: (.pointer (some ⟨O,0,none⟩)) :: (.pointer (some ⟨Bx,0,none⟩)) :: t7 :: t8 :: (.slice b3 i d3) :: (.func (.func 20) #[] #[]) :: (.agg #[.int .u8 x.k,.bool x.b,.slice x.a1 x.n1 x.c1,.slice x.a2 x.n2 x.c2,.int .i32 x.c,.slice x.a3 x.n3 x.c3]) :: (.agg #[.int .u8 y.k,.bool y.b,.slice y.a1 y.n1 y.c1,.slice y.a2 y.n2 y.c2,.int .i32 y.c,.slice y.a3 y.n3 y.c3]) :: (.slice (some ⟨wa.heap.size,0,none⟩) 1 1) :: (.slice b4 (i+1) d4) :: t15 :: r).toArray,defers:=ds } (w2.setCell ⟨O,0,none⟩ (.slice b4 (i+1) d4))) (hc:∀ N,CallsIn (Fence.wide.inRound l) N Tryz.prog 20 #[.agg #[.int .u8 x.k,.bool x.b,.slice x.a1 x.n1 x.c1,.slice x.a2 x.n2 x.c2,.int .i32 x.c,.slice x.a3 x.n3 x.c3]] W fun e w2=>∃ y:IV,e=.returned (.agg #[.int .u8 y.k,.bool y.b,.slice y.a1 y.n1 y.c1,.slice y.a2 y.n2 y.c2,.int .i32 y.c,.slice y.a3 y.n3 y.c3])∧IsIt f (Fr W.heap.size w2.heap.size) w2 y t∧Below W.heap.size W w2) :
    wpAnyIn (Fence.wide.inRound l) N Tryz.prog .any eachT_ops Q 5 #[true,true,false,false,false,false,false] { tmps:=(t0 :: t1 :: (.pointer (some ⟨Wk,0,none⟩)) :: t3 :: t4 :: (.pointer (some ⟨O,0,none⟩)) :: (.pointer (some ⟨Bx,0,none⟩)) :: t7 :: t8 :: (.slice b3 i d3) :: (.func (.func 20) #[] #[]) :: t11 :: t12 :: t13 :: t14 :: t15 :: r).toArray,defers:=ds } W:=by
 refine wpAnyIn_ready (rs:=[2]) (by kernel_rfl) (by simp) ?_;refine AllReadyIn.cons (o:={ dst:=some 11,op:=Op.load 68 (Operand.tmp 6),type:=68,pos:= "array.go:135",after:=#[],guard:=none }) rfl (fun K hK => ?_) ?_
 · have m0:=BX.cell 0 rfl
   have m1:=BX.cell 1 rfl;have m2:=BX.cell 2 rfl;have m3:=BX.cell 3 rfl;have m4:=BX.cell 4 rfl;have m5:=BX.cell 5 rfl;go_simp
   refine hK _ _ ?_;exact eachT_s31 HO BO BW BX lO lZ hi hQ hc
 exact AllReadyIn.nil
theorem eachT_s10 (HO:W.ownsRow Z 68 6 (.slice b3 i d3) i xs) (BO:BoxA W O 22 #[.slice b3 i d3]) (BW:BoxA W Wk 53 #[.func (.func 20) #[] #[]]) (BX:BoxA W Bx 68 #[.int .u8 x.k,.bool x.b,.slice x.a1 x.n1 x.c1,.slice x.a2 x.n2 x.c2,.int .i32 x.c,.slice x.a3 x.n3 x.c3]) (lO:O<Z) (lZ:Z≤W.heap.size) (hi:(i+1)*96≤140737488355328) (hQ:∀ (y:IV) (wa:World) (b4:Option Addr) (d4:Nat) (w2:World),IsIt f (Fr W.heap.size wa.heap.size) wa y t→Below W.heap.size W wa→w2.ownsRow Z 68 6 (.slice b4 (i+1) d4) (i+1) (xs++[.int .u8 y.k,.bool y.b,.slice y.a1 y.n1 y.c1,.slice y.a2 y.n2 y.c2,.int .i32 y.c,.slice y.a3 y.n3 y.c3])→(wa.alloc (.cells #[.int .u8 y.k,.bool y.b,.slice y.a1 y.n1 y.c1,.slice y.a2 y.n2 y.c2,.int .i32 y.c,.slice y.a3 y.n3 y.c3] 68)).grownBy w2 (Value.slice b3 i d3).ownBlock→((Value.slice b4 (i+1) d4).ownBlock=(Value.slice b3 i d3).ownBlock∨(Value.slice b4 (i+1) d4).ownBlock=some (wa.alloc (.cells #[.int .u8 y.k,.bool y.b,.slice y.a1 y.n1 y.c1,.slice y.a2 y.n2 y.c2,.int .i32 y.c,.slice y.a3 y.n3 y.c3] 68)).heap.size)→Q .normal { tmps:=(t0 :: t1 :: (.pointer (some ⟨Wk,0,none⟩)) :: t3 :: t4 :: (.pointer (some ⟨O,0,none⟩)) :: (.pointer (some ⟨Bx,0,none⟩)) :: t7 :: t8 :: (.slice b3 i d3) :: (.func (.func 20) #[] #[]) :: (.agg #[.int .u8 x.k,.bool x.b,.slice x.a1 x.n1 x.c1,.slice x.a2 x.n2 x.c2,.int .i32 x.c,.slice x.a3 x.n3 x.c3]) :: (.agg #[.int .u8 y.k,.bool y.b,.slice y.a1 y.n1 y.c1,.slice y.a2 y.n2 y.c2,.int .i32 y.c,.slice y.a3 y.n3 y.c3]) :: (.slice (some ⟨wa.heap.size,0,none⟩) 1 1) :: (.slice b4 (i+1) d4) :: t15 :: r).toArray,defers:=ds } (w2.setCell ⟨O,0,none⟩ (.slice b4 (i+1) d4))) (hc:∀ N,CallsIn (Fence.wide.inRound l) N Tryz.prog 20 #[.agg #[.int .u8 x.k,.bool x.b,.slice x.a1 x.n1 x.c1,.slice x.a2 x.n2 x.c2,.int .i32 x.c,.slice x.a3 x.n3 x.c3]] W fun e w2=>∃ y:IV,e=.returned (.agg #[.int .u8 y.k,.bool y.b,.slice y.a1 y.n1 y.c1,.slice y.a2 y.n2 y.c2,.int .i32 y.c,.slice y.a3 y.n3 y.c3])∧IsIt f (Fr W.heap.size w2.heap.size) w2 y t∧Below W.heap.size W w2) :
    wpAnyIn (Fence.wide.inRound l) N Tryz.prog .any eachT_ops Q 6 #[false,true,false,false,false,false,false] { tmps:=(t0 :: t1 :: (.pointer (some ⟨Wk,0,none⟩)) :: t3 :: t4 :: (.pointer (some ⟨O,0,none⟩)) :: (.pointer (some ⟨Bx,0,none⟩)) :: t7 :: t8 :: t9 :: (.func (.func 20) #[] #[]) :: t11 :: t12 :: t13 :: t14 :: t15 :: r).toArray,defers:=ds } W:=by
 refine wpAnyIn_ready (rs:=[0,2]) (by kernel_rfl) (by simp) ?_;refine AllReadyIn.cons (o:={ dst:=some 9,op:=Op.load 22 (Operand.tmp 5),type:=22,pos:= "array.go:135",after:=#[],guard:=none }) rfl (fun K hK => ?_) ?_
 · have cO:=(show BoxA _ O 22 #[.slice b3 i d3] from BO).cell 0 rfl
   go_simp
   refine hK _ _ ?_;exact eachT_s11 HO BO BW BX lO lZ hi hQ hc
 refine AllReadyIn.cons (o:={ dst:=some 11,op:=Op.load 68 (Operand.tmp 6),type:=68,pos:= "array.go:135",after:=#[],guard:=none }) rfl (fun K hK => ?_) ?_
 · have m0:=BX.cell 0 rfl
   have m1:=BX.cell 1 rfl;have m2:=BX.cell 2 rfl;have m3:=BX.cell 3 rfl;have m4:=BX.cell 4 rfl;have m5:=BX.cell 5 rfl;go_simp
   refine hK _ _ ?_;exact eachT_s30 HO BO BW BX lO lZ hi hQ hc
 exact AllReadyIn.nil
theorem eachT_s01 (HO:W.ownsRow Z 68 6 (.slice b3 i d3) i xs) (BO:BoxA W O 22 #[.slice b3 i d3]) (BW:BoxA W Wk 53 #[.func (.func 20) #[] #[]]) (BX:BoxA W Bx 68 #[.int .u8 x.k,.bool x.b,.slice x.a1 x.n1 x.c1,.slice x.a2 x.n2 x.c2,.int .i32 x.c,.slice x.a3 x.n3 x.c3]) (lO:O<Z) (lZ:Z≤W.heap.size) (hi:(i+1)*96≤140737488355328) (hQ:∀ (y:IV) (wa:World) (b4:Option Addr) (d4:Nat) (w2:World),IsIt f (Fr W.heap.size wa.heap.size) wa y t→Below W.heap.size W wa→w2.ownsRow Z 68 6 (.slice b4 (i+1) d4) (i+1) (xs++[.int .u8 y.k,.bool y.b,.slice y.a1 y.n1 y.c1,.slice y.a2 y.n2 y.c2,.int .i32 y.c,.slice y.a3 y.n3 y.c3])→(wa.alloc (.cells #[.int .u8 y.k,.bool y.b,.slice y.a1 y.n1 y.c1,.slice y.a2 y.n2 y.c2,.int .i32 y.c,.slice y.a3 y.n3 y.c3] 68)).grownBy w2 (Value.slice b3 i d3).ownBlock→((Value.slice b4 (i+1) d4).ownBlock=(Value.slice b3 i d3).ownBlock∨(Value.slice b4 (i+1) d4).ownBlock=some (wa.alloc (.cells #[.int .u8 y.k,.bool y.b,.slice y.a1 y.n1 y.c1,.slice y.a2 y.n2 y.c2,.int .i32 y.c,.slice y.a3 y.n3 y.c3] 68)).heap.size)→Q .normal { tmps:=(t0 :: t1 :: (.pointer (some ⟨Wk,0,none⟩)) :: t3 :: t4 :: (.pointer (some ⟨O,0,none⟩)) :: (.pointer (some ⟨Bx,0,none⟩)) :: t7 :: t8 :: (.slice b3 i d3) :: (.func (.func 20) #[] #[]) :: (.agg #[.int .u8 x.k,.bool x.b,.slice x.a1 x.n1 x.c1,.slice x.a2 x.n2 x.c2,.int .i32 x.c,.slice x.a3 x.n3 x.c3]) :: (.agg #[.int .u8 y.k,.bool y.b,.slice y.a1 y.n1 y.c1,.slice y.a2 y.n2 y.c2,.int .i32 y.c,.slice y.a3 y.n3 y.c3]) :: (.slice (some ⟨wa.heap.size,0,none⟩) 1 1) :: (.slice b4 (i+1) d4) :: t15 :: r).toArray,defers:=ds } (w2.setCell ⟨O,0,none⟩ (.slice b4 (i+1) d4))) (hc:∀ N,CallsIn (Fence.wide.inRound l) N Tryz.prog 20 #[.agg #[.int .u8 x.k,.bool x.b,.slice x.a1 x.n1 x.c1,.slice x.a2 x.n2 x.c2,.int .i32 x.c,.slice x.a3 x.n3 x.c3]] W fun e w2=>∃ y:IV,e=.returned (.agg #[.int .u8 y.k,.bool y.b,.slice y.a1 y.n1 y.c1,.slice y.a2 y.n2 y.c2,.int .i32 y.c,.slice y.a3 y.n3 y.c3])∧IsIt f (Fr W.heap.size w2.heap.size) w2 y t∧Below W.heap.size W w2) :
    wpAnyIn (Fence.wide.inRound l) N Tryz.prog .any eachT_ops Q 6 #[true,false,false,false,false,false,false] { tmps:=(t0 :: t1 :: (.pointer (some ⟨Wk,0,none⟩)) :: t3 :: t4 :: (.pointer (some ⟨O,0,none⟩)) :: (.pointer (some ⟨Bx,0,none⟩)) :: t7 :: t8 :: (.slice b3 i d3) :: t10 :: t11 :: t12 :: t13 :: t14 :: t15 :: r).toArray,defers:=ds } W:=by
 refine wpAnyIn_ready (rs:=[1,2]) (by kernel_rfl) (by simp) ?_;refine AllReadyIn.cons (o:={ dst:=some 10,op:=Op.load 53 (Operand.tmp 2),type:=53,pos:= "array.go:135",after:=#[],guard:=none }) rfl (fun K hK => ?_) ?_
 · have cW:=BW.cell 0 rfl
   go_simp
   refine hK _ _ ?_;exact eachT_s11 HO BO BW BX lO lZ hi hQ hc
 refine AllReadyIn.cons (o:={ dst:=some 11,op:=Op.load 68 (Operand.tmp 6),type:=68,pos:= "array.go:135",after:=#[],guard:=none }) rfl (fun K hK => ?_) ?_
 · have m0:=BX.cell 0 rfl
   have m1:=BX.cell 1 rfl;have m2:=BX.cell 2 rfl;have m3:=BX.cell 3 rfl;have m4:=BX.cell 4 rfl;have m5:=BX.cell 5 rfl;go_simp
   refine hK _ _ ?_;exact eachT_s21 HO BO BW BX lO lZ hi hQ hc
 exact AllReadyIn.nil
theorem eachT_s00 (HO:W.ownsRow Z 68 6 (.slice b3 i d3) i xs) (BO:BoxA W O 22 #[.slice b3 i d3]) (BW:BoxA W Wk 53 #[.func (.func 20) #[] #[]]) (BX:BoxA W Bx 68 #[.int .u8 x.k,.bool x.b,.slice x.a1 x.n1 x.c1,.slice x.a2 x.n2 x.c2,.int .i32 x.c,.slice x.a3 x.n3 x.c3]) (lO:O<Z) (lZ:Z≤W.heap.size) (hi:(i+1)*96≤140737488355328) (hQ:∀ (y:IV) (wa:World) (b4:Option Addr) (d4:Nat) (w2:World),IsIt f (Fr W.heap.size wa.heap.size) wa y t→Below W.heap.size W wa→w2.ownsRow Z 68 6 (.slice b4 (i+1) d4) (i+1) (xs++[.int .u8 y.k,.bool y.b,.slice y.a1 y.n1 y.c1,.slice y.a2 y.n2 y.c2,.int .i32 y.c,.slice y.a3 y.n3 y.c3])→(wa.alloc (.cells #[.int .u8 y.k,.bool y.b,.slice y.a1 y.n1 y.c1,.slice y.a2 y.n2 y.c2,.int .i32 y.c,.slice y.a3 y.n3 y.c3] 68)).grownBy w2 (Value.slice b3 i d3).ownBlock→((Value.slice b4 (i+1) d4).ownBlock=(Value.slice b3 i d3).ownBlock∨(Value.slice b4 (i+1) d4).ownBlock=some (wa.alloc (.cells #[.int .u8 y.k,.bool y.b,.slice y.a1 y.n1 y.c1,.slice y.a2 y.n2 y.c2,.int .i32 y.c,.slice y.a3 y.n3 y.c3] 68)).heap.size)→Q .normal { tmps:=(t0 :: t1 :: (.pointer (some ⟨Wk,0,none⟩)) :: t3 :: t4 :: (.pointer (some ⟨O,0,none⟩)) :: (.pointer (some ⟨Bx,0,none⟩)) :: t7 :: t8 :: (.slice b3 i d3) :: (.func (.func 20) #[] #[]) :: (.agg #[.int .u8 x.k,.bool x.b,.slice x.a1 x.n1 x.c1,.slice x.a2 x.n2 x.c2,.int .i32 x.c,.slice x.a3 x.n3 x.c3]) :: (.agg #[.int .u8 y.k,.bool y.b,.slice y.a1 y.n1 y.c1,.slice y.a2 y.n2 y.c2,.int .i32 y.c,.slice y.a3 y.n3 y.c3]) :: (.slice (some ⟨wa.heap.size,0,none⟩) 1 1) :: (.slice b4 (i+1) d4) :: t15 :: r).toArray,defers:=ds } (w2.setCell ⟨O,0,none⟩ (.slice b4 (i+1) d4))) (hc:∀ N,CallsIn (Fence.wide.inRound l) N Tryz.prog 20 #[.agg #[.int .u8 x.k,.bool x.b,.slice x.a1 x.n1 x.c1,.slice x.a2 x.n2 x.c2,.int .i32 x.c,.slice x.a3 x.n3 x.c3]] W fun e w2=>∃ y:IV,e=.returned (.agg #[.int .u8 y.k,.bool y.b,.slice y.a1 y.n1 y.c1,.slice y.a2 y.n2 y.c2,.int .i32 y.c,.slice y.a3 y.n3 y.c3])∧IsIt f (Fr W.heap.size w2.heap.size) w2 y t∧Below W.heap.size W w2) :
    wpAnyIn (Fence.wide.inRound l) N Tryz.prog .any eachT_ops Q 7 #[false,false,false,false,false,false,false] { tmps:=(t0 :: t1 :: (.pointer (some ⟨Wk,0,none⟩)) :: t3 :: t4 :: (.pointer (some ⟨O,0,none⟩)) :: (.pointer (some ⟨Bx,0,none⟩)) :: t7 :: t8 :: t9 :: t10 :: t11 :: t12 :: t13 :: t14 :: t15 :: r).toArray,defers:=ds } W:=by
 refine wpAnyIn_ready (rs:=[0,1,2]) (by kernel_rfl) (by simp) ?_;refine AllReadyIn.cons (o:={ dst:=some 9,op:=Op.load 22 (Operand.tmp 5),type:=22,pos:= "array.go:135",after:=#[],guard:=none }) rfl (fun K hK => ?_) ?_
 · have cO:=(show BoxA _ O 22 #[.slice b3 i d3] from BO).cell 0 rfl
   go_simp
   refine hK _ _ ?_;exact eachT_s01 HO BO BW BX lO lZ hi hQ hc
 refine AllReadyIn.cons (o:={ dst:=some 10,op:=Op.load 53 (Operand.tmp 2),type:=53,pos:= "array.go:135",after:=#[],guard:=none }) rfl (fun K hK => ?_) ?_
 · have cW:=BW.cell 0 rfl
   go_simp
   refine hK _ _ ?_;exact eachT_s10 HO BO BW BX lO lZ hi hQ hc
 refine AllReadyIn.cons (o:={ dst:=some 11,op:=Op.load 68 (Operand.tmp 6),type:=68,pos:= "array.go:135",after:=#[],guard:=none }) rfl (fun K hK => ?_) ?_
 · have m0:=BX.cell 0 rfl
   have m1:=BX.cell 1 rfl;have m2:=BX.cell 2 rfl;have m3:=BX.cell 3 rfl;have m4:=BX.cell 4 rfl;have m5:=BX.cell 5 rfl;go_simp
   refine hK _ _ ?_;exact eachT_s20 HO BO BW BX lO lZ hi hQ hc
 exact AllReadyIn.nil
end
end
section
open Go.RowKit Go.Shelf
attribute [local go_sem] Oper.semAt_some
theorem eachT_any {w:World} {gf:Nat} {lb:Array Value} {Gd:List IV→IV→World→Prop} {Sx:List IV→World→Prop} {f:Nat} {ts:List Tr}
    (eg:∀ args w,(callFunc gf args).run Tryz.prog w=.ok (.enter gf args) w) (hp:Pays Fence.wide 5 Tryz.prog gf lb IV.encs (KeepW w.heap.size) Gd Sx w) (hS:OwnFrom w.heap.size Sx)
    (hGs:∀ pre x,OwnFrom w.heap.size (fun (_:Unit) W=>Gd pre x W)) (hGl:∀ pre x W,Gd pre x W→pre.length<ts.length) (hSl:∀ xs W,Sx xs W→xs.length=ts.length) (hsz:ts.length*96≤140737488355328)
    (hwk:∀ pre x W,Gd pre x W→Calls Tryz.prog 20 #[.agg #[.int .u8 x.k,.bool x.b,.slice x.a1 x.n1 x.c1,.slice x.a2 x.n2 x.c2,.int .i32 x.c,.slice x.a3 x.n3 x.c3]] W fun e w'=>∃ y:IV,e=.returned (.agg #[.int .u8 y.k,.bool y.b,.slice y.a1 y.n1 y.c1,.slice y.a2 y.n2 y.c2,.int .i32 y.c,.slice y.a3 y.n3 y.c3])∧IsIt f (Fr W.heap.size w'.heap.size) w' y (ts.getD pre.length tr0)∧Below W.heap.size W w') :
    Calls Tryz.prog 24 #[.func (.func 20) #[] #[],.func (.func gf) #[] lb] w fun e w'=>∃ a c,e=.returned (.slice a ts.length c)∧RowB (Fr w.heap.size w'.heap.size) ts.length (.slice a ts.length c) (fun g o j=>ItC (ArV f (Fr w.heap.size w'.heap.size) w') (Fr w.heap.size w'.heap.size) w' g (o+j*6) (ts.getD j tr0))∧Below w.heap.size w w':=by
 have g1:=below_alloc w (.cells #[.func (.func 20) #[] #[]] 53);have g2:=below_alloc (w.alloc (.cells #[.func (.func 20) #[] #[]] 53)) (.cells #[.slice none 0 0] 22);have BW:=(boxA_new w #[.func (.func 20) #[] #[]] 53).below g2 (by simp);have BO:=boxA_new (w.alloc (.cells #[.func (.func 20) #[] #[]] 53)) #[.slice none 0 0] 22;rw [World.size_alloc] at BO;have g:Below w.heap.size w _:=g1.trans (g2.mono (by simp));have sW:((w.alloc (.cells #[.func (.func 20) #[] #[]] 53)).alloc (.cells #[.slice none 0 0] 22)).heap.size=w.heap.size+1+1:=by simp
 clear g1 g2;refine (callsIn_wide (n:=6)).1 ?_;refine callsIn_of_wp_marks Tryz.func24 rfl trivial ?_ rfl;simp only [Tryz.ntmps24,List.size_toArray,List.length_cons,List.length_nil,Nat.reduceAdd,Nat.reduceSub,Array.replicate_succ,Array.replicate_zero,List.push_toArray,List.append_toArray,List.nil_append,List.cons_append]
 gi_wp2_with fail
 generalize (w.alloc (.cells #[.func (.func 20) #[] #[]] 53)).alloc (.cells #[.slice none 0 0] 22)=W0 at *;refine wpIn_range_pays rfl (by omega) (gf:=gf) (lb:=lb) rfl trivial eg hp (fun h h'=>h.trans h') (fun W l o o' hl ho _ hw=>keepW_put (B0:=W0.heap.size) (by omega) W l o o' hl ho hw) g (fun _=>rfl)
  (fun pre W=>∃ a c,BoxA W (w.heap.size+1) 22 #[.slice a pre.length c]∧RowOf 68 6 (ElI f ts) (w.heap.size+1+1) W (.slice a pre.length c) pre.length∧BoxA W w.heap.size 53 #[.func (.func 20) #[] #[]]∧Below w.heap.size w W)
  ?hI ⟨none,0,BO,RowOf.nil,BW,g⟩ (fun s A B row h hg hrow=>hS s A B row h hg (fun k e=>⟨by have:=(hrow k e).1;omega,(hrow k e).2⟩))
  (fun pre x a' W=>Gd pre x W∧∃ Bx,BoxA W Bx 68 #[.int .u8 x.k,.bool x.b,.slice x.a1 x.n1 x.c1,.slice x.a2 x.n2 x.c2,.int .i32 x.c,.slice x.a3 x.n3 x.c3]∧a'={ tmps:=#[.func (.func 20) #[] #[],.func (.func gf) #[] lb,.pointer (some ⟨w.heap.size,0,none⟩),undef,.slice none 0 0,.pointer (some ⟨w.heap.size+1,0,none⟩),.pointer (some ⟨Bx,0,none⟩),.func (.func gf) #[] lb,.agg #[.int .u8 x.k,.bool x.b,.slice x.a1 x.n1 x.c1,.slice x.a2 x.n2 x.c2,.int .i32 x.c,.slice x.a3 x.n3 x.c3],undef,undef,undef,undef,undef,undef,undef],defers:=[] })
  ?hAx ?assign ?body ?done
 case hI=>
  rintro s A B row ⟨a,c,b1,b2,b3,b4⟩ hg hrow;exact ⟨a,c,boxA_kept b1 hg (fun k e=>(hrow k e).2),rowI_grown b2 hg (fun k e=>(hrow k e).2),boxA_kept b3 hg (fun k e=>(hrow k e).2),b4.grown hg b4.size (fun k e=>by have:=(hrow k e).1;omega)⟩
 case hAx=>
  rintro pre x a' _ A B row ⟨h1,Bx,h3,h4⟩ hg hrow;exact ⟨hGs pre x () A B row h1 hg (fun k e=>⟨by have:=(hrow k e).1;omega,(hrow k e).2⟩),Bx,boxA_kept h3 hg (fun k e=>(hrow k e).2),h4⟩
 case assign=>
  rintro l pre x W K ⟨a,c,b1,b2,b3,b4⟩ hG hK;dsimp only [IV.encs];have kx:=below_alloc W (.cells #[.int .u8 x.k,.bool x.b,.slice x.a1 x.n1 x.c1,.slice x.a2 x.n2 x.c2,.int .i32 x.c,.slice x.a3 x.n3 x.c3] 68);have BX:=boxA_new W #[.int .u8 x.k,.bool x.b,.slice x.a1 x.n1 x.c1,.slice x.a2 x.n2 x.c2,.int .i32 x.c,.slice x.a3 x.n3 x.c3] 68;have hG2:=hGs pre x () W _ none hG (World.grownBy_alloc W (.cells #[.int .u8 x.k,.bool x.b,.slice x.a1 x.n1 x.c1,.slice x.a2 x.n2 x.c2,.int .i32 x.c,.slice x.a3 x.n3 x.c3] 68) none) (fun r e=>by cases e);have sb:=b4.size;have c1:=b1.below kx b1.lt;have c3:=b3.below kx b3.lt;have c2:=b2.below (elI_ok f ts) kx (Nat.le_refl _);have c4:=b4.trans (kx.mono sb);have hk1:=(KeepsOthers.alloc W (.cells #[.int .u8 x.k,.bool x.b,.slice x.a1 x.n1 x.c1,.slice x.a2 x.n2 x.c2,.int .i32 x.c,.slice x.a3 x.n3 x.c3] 68));have hk2:KeepW w.heap.size W _:=⟨kx.mono sb,hk1.walks⟩;clear b1 b2 b3 b4 hG kx
  gi_wp2
  exact hK _ _ (hk1.from _) hk2 ⟨a,c,c1,c2,c3,c4⟩ ⟨hG2,W.heap.size,BX,rfl⟩
 case body=>
  rintro l pre x a' W ⟨a,c,b1,b2,b3,b4⟩ ⟨hG,Bx,bX,rfl⟩;have sb:=b4.size;have lO:=b1.lt;obtain ⟨xs,ho,he⟩:=b2;have hl:=hGl pre x W hG;have hG2:Gd pre x W.drew:=hGs pre x () W W.drew none hG ⟨rfl,rfl,rfl,Nat.le_refl _,fun _ _ _=>rfl⟩ (fun r e=>by cases e);have hlen:(pre++[x]).length=pre.length+1:=by simp
  gi_wp2_with fail
  refine wpIn_region_any (by kernel_rfl) ?_;refine eachT_s00 (W:=W.drew) (f:=f) (t:=ts.getD pre.length tr0) (Z:=w.heap.size+1+1) (xs:=xs) (Wk:=w.heap.size) (O:=w.heap.size+1) (Bx:=Bx) (i:=pre.length) (b3:=a) (d3:=c) (x:=x) (l:=l) ho b1 b3 bX (by omega) (by show _≤W.heap.size;omega) (by omega) ?_ (fun N=>CallsIn.inRound l (callsIn_wide.2 (hwk pre x _ hG2)));intro y wa b4' d4 w2 hI k hr hgr hvo;have kb:Below W.heap.size W wa:=below_undrew k;have hrr:=row_round (o:=0) (Y:=w.heap.size+1) (B:=w.heap.size) (V:=w) (wc:=W) (u:=.slice b4' (pre.length+1) d4) (elI_ok f ts) ho he (fun _ _ _=>rfl) b4 (by omega) (by omega) (by omega) kb rfl (show ElI f ts _ wa _ pre.length from ⟨y.a1,y.c1,y.a2,y.c2,y.a3,y.c3,⟨by rw [← hI.k];rfl,by rw [← hI.b];rfl,by rw [← hI.n1];rfl,by rw [← hI.n2];rfl,by rw [← hI.c];rfl,by rw [← hI.n3];rfl⟩,hI.v⟩) hr hgr hvo;obtain ⟨t1,t2,t3,t4⟩:=hrr;have BN:=boxA_grown ((b1.below kb lO).below (below_alloc wa _) (by have:=kb.size;omega)) hgr (fun h=>by have:=(row_own ho _ h).1;omega);have BWN:=boxA_o (boxA_grown ((b3.below kb b3.lt).below (below_alloc wa _) (by have:=kb.size;have:=b3.lt;omega)) hgr (fun h=>by have:=(row_own ho _ h).1;omega)) (p:=⟨w.heap.size+1,0,none⟩) (show w.heap.size+1≠w.heap.size by omega) (.slice b4' (pre.length+1) d4);have hO1:KeepsOthers W wa:=⟨kb.size,fun q o hq _=>(kb.block q (Array.getElem?_eq_some_iff.1 hq).1).trans hq⟩;have hO2:=(hO1.trans (KeepsOthers.alloc wa (.cells #[.int .u8 y.k,.bool y.b,.slice y.a1 y.n1 y.c1,.slice y.a2 y.n2 y.c2,.int .i32 y.c,.slice y.a3 y.n3 y.c3] 68))).trans ((KeepsOthers.of_grownBy hgr (fun j o e ho'=>by
   have hz:=row_below ho kb (Nat.le_refl _) |>.alloc (.cells #[.int .u8 y.k,.bool y.b,.slice y.a1 y.n1 y.c1,.slice y.a2 y.n2 y.c2,.int .i32 y.c,.slice y.a3 y.n3 y.c3] 68)
   obtain ⟨o',ho2,hc⟩:=row_isC hz j e;rw [ho'] at ho2;cases ho2;exact hc)).trans (KeepsOthers.setCell w2 ⟨w.heap.size+1,0,none⟩ (.slice b4' (pre.length+1) d4)))
  have kB:Below w.heap.size W (w2.setCell ⟨w.heap.size+1,0,none⟩ (.slice b4' (pre.length+1) d4)):=by
   refine ((((kb.mono (by omega)).trans ((below_alloc wa _).mono (by have:=kb.size;omega)))).grown hgr ?_ ?_).setCell (p:=⟨w.heap.size+1,0,none⟩) (show w.heap.size≤w.heap.size+1 by omega) _
   · have:=kb.size;simp;omega
   · intro q e;have:=(row_own ho q e).1;omega
  refine ⟨rfl,hO2.from _,⟨kB,hO2.walks⟩,b4',d4,?_,?_,BWN,t2⟩
  · rw [hlen];exact boxA_p1 BN _
  · rw [hlen];exact t1
 case done=>
  rintro D xs W hD hxs ⟨a,c,b1,b2,b3,b4⟩ hK;have hl:=hSl xs W hxs;rw [hl] at b1 b2;have cO:=b1.cell 0 rfl;have sb:=b4.size
  gi_wp2
  have hDW:D<W.heap.size:=(Array.getElem?_eq_some_iff.1 hK).1;refine ⟨by simp,.inl ⟨_,_,rfl,run_takeDeferred hK,?_⟩⟩;have hgp:=grownBy_putObj' W D (.deferred none);have hr:=rowI_grown b2 hgp (fun k e=>by cases e;exact ⟨_,hK,rfl⟩);refine ⟨.slice a ts.length c,by simp [results,Tryz.results24,go_sem],a,c,rfl,rowB_I hr (fun q h1 h2=>⟨by omega,h2⟩),b4.grown hgp sb (fun k e=>by cases e;omega)⟩
end
section
open Go.RowKit
/-- What the work makes of each item. -/
def WorkT (f:Nat) (D:Nat→Prop) (l l':List Tr):Prop:=∀ j x W,j<l.length→IsIt f D W x (l.getD j tr0)→(∀ g,D g→g<W.heap.size)→Calls Tryz.prog 20 #[.agg #[.int .u8 x.k,.bool x.b,.slice x.a1 x.n1 x.c1,.slice x.a2 x.n2 x.c2,.int .i32 x.c,.slice x.a3 x.n3 x.c3]] W fun e w'=>∃ y:IV,e=.returned (.agg #[.int .u8 y.k,.bool y.b,.slice y.a1 y.n1 y.c1,.slice y.a2 y.n2 y.c2,.int .i32 y.c,.slice y.a3 y.n3 y.c3])∧IsIt f (Fr W.heap.size w'.heap.size) w' y (l'.getD j tr0)∧Below W.heap.size W w'
section
variable {w:World} {f:Nat} {D:Nat→Prop} {a2:Option Addr} {c2 Bn:Nat} {l l':List Tr}
theorem eachValT (hB:BoxA w Bn 22 #[.slice a2 l.length c2]) (hR:RowB D l.length (.slice a2 l.length c2) (fun g o j=>ItC (ArV f D w) D w g (o+j*6) (l.getD j tr0))) (hD:∀ g,D g→g<w.heap.size) (hs:l.length*96≤140737488355328) (hl:l'.length=l.length) (hwk:WorkT f D l l') :
    Calls Tryz.prog 24 #[.func (.func 20) #[] #[],.func (.func 129) #[] #[.pointer (some ⟨Bn,0,none⟩)]] w fun e w'=>∃ a c,e=.returned (.slice a l.length c)∧RowB (Fr w.heap.size w'.heap.size) l.length (.slice a l.length c) (fun g o j=>ItC (ArV f (Fr w.heap.size w'.heap.size) w') (Fr w.heap.size w'.heap.size) w' g (o+j*6) (l'.getD j tr0))∧Below w.heap.size w w':=by
 obtain ⟨L,hL,hRL,hI⟩:=row_iv hR;have hp:=values_pays (w:=w) (D:=D) (a2:=a2) (c2:=c2) (L:=L) (Bn:=Bn) (n₀:=w.heap.size) 5 (by omega) hB.lt (Nat.le_refl _) (by rw [hL];exact hB) (by rw [← hL] at hRL;exact hRL) hD;refine (eachT_any (f:=f) (ts:=l') (enters_of Tryz.func129 (by kernel_rfl) rfl) hp ?_ ?_ ?_ ?_ (by omega) ?_).mono ?_
 · rintro s A B row ⟨h1,h2⟩ hg hrow
   exact ⟨h1,h2.grown hg h2.size (fun k e=>(hrow k e).1)⟩
 · rintro pre x _ A B row ⟨h1,h2⟩ hg hrow
   exact ⟨h1,h2.grown hg h2.size (fun k e=>(hrow k e).1)⟩
 · rintro pre x W ⟨h1,_⟩
   have:=(pre_next (d:=iv0) h1).1;omega
 · rintro xs W ⟨h1,_⟩
   rw [h1,hL,hl]
 · rintro pre x W ⟨h1,h2⟩
   obtain ⟨h3,h4⟩:=pre_next (d:=iv0) h1;have hi:=(hI pre.length (by omega)).agree (Agree.of h2 hD);rw [← h4] at hi;exact hwk pre.length x W (by omega) hi (fun g hg=>Nat.lt_of_lt_of_le (hD g hg) h2.size)
 · rintro e w' ⟨a,c,rfl,h1,h2⟩
   rw [hl] at h1;exact ⟨a,c,by rw [hl],h1,h2⟩
end
section
variable {w:World} {f:Nat} {D:Nat→Prop} {x1:Option Addr} {y1:Nat} {x2:Option Addr} {y2:Nat} {t t':Tr}
theorem throughT_any (h:ArV (f+1) D w (.slice x1 t.ns.length y1) (.slice x2 t.kids.length y2) t) (hD:∀ g,D g→g<w.heap.size) (hs1:t.ns.length*8≤140737488355328) (hs2:t.kids.length*96≤140737488355328) (hns:t'.ns=t.ns) (hkl:t'.kids.length=t.kids.length) (hwk:WorkT f D t.kids t'.kids) :
    Calls Tryz.prog 43 #[.func (.func 20) #[] #[],.agg #[.slice x1 t.ns.length y1,.slice x2 t.kids.length y2]] w fun e w'=>∃ z1 u1 z2 u2,e=.returned (.agg #[.slice z1 t.ns.length u1,.slice z2 t.kids.length u2])∧ArV (f+1) (Fr w.heap.size w'.heap.size) w' (.slice z1 t.ns.length u1) (.slice z2 t.kids.length u2) t'∧Below w.heap.size w w':=by
 have X0:=boxA_new w #[.slice x1 t.ns.length y1,.slice x2 t.kids.length y2] 25;have k0:=below_alloc w (.cells #[.slice x1 t.ns.length y1,.slice x2 t.kids.length y2] 25);have k1:=below_alloc (w.alloc (.cells #[.slice x1 t.ns.length y1,.slice x2 t.kids.length y2] 25)) (.cells #[.slice none 0 0,.slice none 0 0] 25);have R:=boxA_new (w.alloc (.cells #[.slice x1 t.ns.length y1,.slice x2 t.kids.length y2] 25)) #[.slice none 0 0,.slice none 0 0] 25;rw [World.size_alloc] at R;have X:=X0.below k1 (by simp);have g:Below w.heap.size w _:=k0.trans (k1.mono (by simp));have sv:((w.alloc (.cells #[.slice x1 t.ns.length y1,.slice x2 t.kids.length y2] 25)).alloc (.cells #[.slice none 0 0,.slice none 0 0] 25)).heap.size=w.heap.size+1+1:=by simp
 have H:Hid (ArV (f+1) D w (.slice x1 t.ns.length y1) (.slice x2 t.kids.length y2) t):=h;have HD:Hid (∀ g,D g→g<w.heap.size):=hD;have HW:Hid (WorkT f D t.kids t'.kids):=hwk;have HN:Hid (t'.ns=t.ns):=hns;have HL:Hid (t'.kids.length=t.kids.length):=hkl;clear h hD hwk hns hkl;go_enter Tryz.func43,Tryz.ntmps43
 go_upto_region 1 with fail
 generalize hA:(w.alloc (.cells #[.slice x1 t.ns.length y1,.slice x2 t.kids.length y2] 25)).alloc (.cells #[.slice none 0 0,.slice none 0 0] 25)=v at *;clear hA k0 k1 X0;have lx:w.heap.size<v.heap.size:=by omega
 have lr:w.heap.size+1<v.heap.size:=by omega
 have hcells:∀ {w':World},Below v.heap.size v w'→w'.cell? ⟨w.heap.size,0,none⟩=some (.slice x1 t.ns.length y1)∧w'.cell? ⟨w.heap.size,1,none⟩=some (.slice x2 t.kids.length y2):=fun hb=>⟨(X.below hb lx).cell 0 rfl,(X.below hb lx).cell 1 rfl⟩;have d0:Below v.heap.size v v.drew:=⟨rfl,rfl,rfl,Nat.le_refl _,fun _ _=>rfl⟩;have j0:=hcells d0;have C0:∀ {w':World},Below v.heap.size v w'→Calls Tryz.prog 23 #[.slice x1 t.ns.length y1] w' _:=fun {w'} k=>copyInts_any (H.out.1.imp (fun _ h=>h) (Agree.of (g.trans (k.mono (by omega))) HD.out)) hs1;have HC:Hid (∀ {w':World},Below v.heap.size v w'→w'.cell? ⟨w.heap.size,0,none⟩=some (.slice x1 t.ns.length y1)∧w'.cell? ⟨w.heap.size,1,none⟩=some (.slice x2 t.kids.length y2)):=hcells;have K0:Hid (∀ {w':World},Below v.heap.size v w'→Calls Tryz.prog 23 #[.slice x1 t.ns.length y1] w' _):=C0;clear hcells C0
 go_region_held3 (fun w'=>w'.cell? ⟨w.heap.size,0,none⟩=some (.slice x1 t.ns.length y1)∧w'.cell? ⟨w.heap.size,1,none⟩=some (.slice x2 t.kids.length y2))
  (first | exact j3 | exact j2 | exact j1 | exact j0 | (go_keep;done))
  (first
   | (have p:=k2;go_at_call 24;refine (eachValT (f:=f) (D:=D) (l:=t.kids) (l':=t'.kids) (Bn:=w1.heap.size) (boxA_new w1 _ _) (RowB.imp H.out.2 (fun _ h=>h) (fun g' o j hg hj hc=>hc.imp hg (fun _ h=>h) (Agree.of (g.trans (k2.mono (by omega))) HD.out) (fun _ _ _ h=>h.agree (Agree.of (g.trans (k2.mono (by omega))) HD.out)))) (fun g' hg=>by have:=HD.out g' hg;have:=k2.size;omega) hs2 HL.out HW.out).mono ?_;rintro e w3 ⟨z2,u2,rfl,hr,q3⟩;have k3:Below v.heap.size v w3:=k2.trans (q3.mono k2.size);have j3:=HC.out k3;have HR:Hid (RowB (Fr (w1.alloc (.cells #[.slice x2 t.kids.length y2] 22)).heap.size w3.heap.size) t.kids.length (.slice z2 t.kids.length u2) (fun g o j=>ItC (ArV f (Fr (w1.alloc (.cells #[.slice x2 t.kids.length y2] 22)).heap.size w3.heap.size) w3) (Fr (w1.alloc (.cells #[.slice x2 t.kids.length y2] 22)).heap.size w3.heap.size) w3 g (o+j*6) (t'.kids.getD j tr0))):=hr;have R3:=R.below k3 lr;have q0:=R3.cell 0 rfl;have q1:=R3.cell 1 rfl;have p0:=R3.frozen 0;have p1:=R3.frozen 1;clear hr)
   | (have p:=k1;go_at_call 78;refine (values_any).mono ?_;rintro e w2 ⟨rfl,rfl⟩;have k2:Below v.heap.size v (w1.alloc (.cells #[.slice x2 t.kids.length y2] 22)):=k1.trans ((below_alloc w1 _).mono k1.size);have j2:=HC.out k2)
   | (go_at_call 23;refine (K0.out d0).mono ?_;rintro e w1 ⟨z1,u1,rfl,hn,q1⟩;have k1:Below v.heap.size v w1:=d0.trans (q1.mono d0.size);have j1:=HC.out k1;have HNN:Hid (RdN (Fr v.heap.size w1.heap.size) w1 (.slice z1 t.ns.length u1) t.ns):=hn;clear hn))
 all_goals
  go_wp2
  have Rd2:=R3.set2 (.slice z1 t.ns.length u1) (.slice z2 t.kids.length u2);have r0:=Rd2.cell 0 rfl;have r1:=Rd2.cell 1 rfl;refine bodyPost_ret (v:=.agg #[.slice z1 t.ns.length u1,.slice z2 t.kids.length u2]) (by simp [results,Tryz.results43,go_sem,r0,r1]) rfl ?_;have s1:=k1.size;have s3:=q3.size;rw [World.size_alloc] at s3;refine ⟨z1,u1,z2,u2,rfl,?_,Below.set2 (g.trans (k3.mono (by omega))) (by omega) _ _⟩;have ho:∀ g',v.heap.size≤g'→((w3.setCell ⟨w.heap.size+1,0,none⟩ (.slice z1 t.ns.length u1)).setCell ⟨w.heap.size+1,1,none⟩ (.slice z2 t.kids.length u2)).heap[g']? = w3.heap[g']?:=fun g' hg=>by
   rw [set1_other (by show ¬ w.heap.size+1=g';omega),set1_other (by show ¬ w.heap.size+1=g';omega)]
  refine ⟨?_,?_⟩
  · rw [HN.out]
    refine HNN.out.imp ?_ ?_
    · rintro g' ⟨q1,q2⟩;exact ⟨by omega,by rw [set1_size,set1_size];omega⟩
    · rintro g' ⟨q1,q2⟩
      rw [ho g' q1,q3.block g' (by rw [World.size_alloc];omega),(below_alloc w1 _).block g' q2]
  · rw [HL.out]
    have hag:Agree (Fr (w1.alloc (.cells #[.slice x2 t.kids.length y2] 22)).heap.size w3.heap.size) w3 ((w3.setCell ⟨w.heap.size+1,0,none⟩ (.slice z1 t.ns.length u1)).setCell ⟨w.heap.size+1,1,none⟩ (.slice z2 t.kids.length u2)):=by
     rintro g' ⟨q1,q2⟩;rw [World.size_alloc] at q1;exact ho g' (by omega)
    have hm:∀ g',Fr (w1.alloc (.cells #[.slice x2 t.kids.length y2] 22)).heap.size w3.heap.size g'→Fr w.heap.size ((w3.setCell ⟨w.heap.size+1,0,none⟩ (.slice z1 t.ns.length u1)).setCell ⟨w.heap.size+1,1,none⟩ (.slice z2 t.kids.length u2)).heap.size g':=by
     rintro g' ⟨q1,q2⟩;rw [World.size_alloc] at q1;exact ⟨by omega,by rw [set1_size,set1_size];omega⟩
    exact RowB.imp HR.out hm (fun g' o j hg hj hc=>hc.imp hg hm hag (fun _ _ _ h=>ArV.imp hm hag f f _ _ _ (Nat.le_refl _) h))
end
mutual
/-- The type of an item. -/
def tyI:Tr→Tr
 | .mk k _ _ _ _ kids=>if k=3 then .mk 3 false [] [] 0 (tyBox kids) else if k=2 then charT 32 else wholeT 0
def tyBox:List Tr→List Tr
 | []=>[]
 | a :: r=>tyArr a :: tyBox r
def tyArr:Tr→Tr
 | .mk k b ns ds c kids=>.mk k b ns ds c (tyKids kids)
def tyKids:List Tr→List Tr
 | []=>[]
 | x :: r=>tyI x :: tyKids r
end
theorem wholeT_form (q:Int):∃ b ns ds,wholeT q=.mk 1 b ns ds 0 []:=⟨_,_,_,rfl⟩
mutual
theorem tyI_idem:∀ t,tyI (tyI t)=tyI t
 | .mk k b ns ds c kids=>by
  by_cases h3:k=3
  · have e1:tyI (.mk k b ns ds c kids)=.mk 3 false [] [] 0 (tyBox kids):=by rw [tyI,if_pos h3]
    rw [e1,tyI,if_pos rfl,tyBox_idem kids]
  · by_cases h2:k=2
    · have e1:tyI (.mk k b ns ds c kids)=charT 32:=by rw [tyI,if_neg h3,if_pos h2]
      rw [e1];unfold charT;rw [tyI,if_neg (by decide),if_pos rfl];rfl
    · have e1:tyI (.mk k b ns ds c kids)=wholeT 0:=by rw [tyI,if_neg h3,if_neg h2]
      rw [e1];obtain ⟨b',ns',ds',e⟩:=wholeT_form 0;rw [e,tyI,if_neg (by decide),if_neg (by decide)];exact e
theorem tyBox_idem:∀ l,tyBox (tyBox l)=tyBox l
 | []=>rfl
 | a :: r=>by rw [tyBox,tyBox,tyArr_idem a,tyBox_idem r]
theorem tyArr_idem:∀ t,tyArr (tyArr t)=tyArr t
 | .mk k b ns ds c kids=>by rw [tyArr,tyArr,tyKids_idem kids]
theorem tyKids_idem:∀ l,tyKids (tyKids l)=tyKids l
 | []=>rfl
 | x :: r=>by rw [tyKids,tyKids,tyI_idem x,tyKids_idem r]
end
theorem tyKids_map:∀ l,tyKids l=l.map tyI
 | []=>rfl
 | x :: r=>by rw [tyKids,tyKids_map r];rfl
theorem tyBox_map:∀ l,tyBox l=l.map tyArr
 | []=>rfl
 | x :: r=>by rw [tyBox,tyBox_map r];rfl
theorem tyArr_ns (t:Tr):(tyArr t).ns=t.ns:=by cases t;rw [tyArr];rfl
theorem tyArr_kids (t:Tr):(tyArr t).kids=t.kids.map tyI:=by cases t;rw [tyArr,tyKids_map];rfl
theorem tyI_3 {t:Tr} (h:t.k=3):tyI t=.mk 3 false [] [] 0 (t.kids.map tyArr):=by
 cases t with | mk k b ns ds c kids=>
 have h:k=3:=h;rw [tyI,if_pos h,tyBox_map];rfl
theorem tyI_2 {t:Tr} (h:t.k=2):tyI t=charT 32:=by
 cases t with | mk k b ns ds c kids=>
 have h:k=2:=h;rw [tyI,if_neg (by omega),if_pos h]
theorem tyI_1 {t:Tr} (h:t.k=1):tyI t=wholeT 0:=by
 cases t with | mk k b ns ds c kids=>
 have h:k=1:=h;rw [tyI,if_neg (by omega),if_neg (by omega)]
theorem tyI_k {t:Tr} (h:t.k=1∨t.k=2∨t.k=3):(tyI t).k=t.k:=by
 rcases h with h | h | h
 · rw [tyI_1 h,h];rfl
 · rw [tyI_2 h,h];rfl
 · rw [tyI_3 h,h];rfl
theorem map_getD {g:Tr→Tr} {l:List Tr} {j:Nat} (h:j<l.length):(l.map g).getD j tr0=g (l.getD j tr0):=by
 rw [List.getD_eq_getElem?_getD,List.getElem?_map,List.getElem?_eq_getElem h,List.getD_eq_getElem?_getD (l:=l),List.getElem?_eq_getElem h];rfl
theorem measI_k {M:Tr→Option (Int×Int)} {t:Tr} (h:(measI M t).isSome=true):t.k=1∨t.k=2∨t.k=3:=by
 rcases measI_cases h with ⟨h,_⟩ | ⟨h,_⟩ | ⟨h,_⟩
 · exact Or.inl h
 · exact Or.inr (Or.inl h)
 · exact Or.inr (Or.inr h)
theorem ty_simp {L:Nat} {t:Tr} (h:(measF L t).isSome=true):simpB (tyArr t)=simpB t:=by
 obtain ⟨L',rfl,_,_,_,_,m5⟩:=measF_some h;unfold simpB;rw [tyArr_ns,tyArr_kids,List.length_map];by_cases h1:t.kids.length=1
 · rw [map_getD (by omega),tyI_k (measI_k (m5 _ (getD_memI (by omega))))]
 · simp [h1]
theorem measL_congr {I J:Tr→Option (Int×Int)} {g:Tr→Tr}:∀ (l:List Tr) (w:Int×Int),(∀ x∈l,J (g x)=I x)→measL J (l.map g) w=measL I l w
 | [],_,_=>rfl
 | x :: r,w,h=>by
  rw [List.map_cons,measL,measL,h x (by simp)]
  cases I x with
  | none=>rfl
  | some p=>
   simp only []
   split
   · rfl
   · exact measL_congr r _ (fun y hy=>h y (by simp [hy]))
theorem tyI_meas {M:Tr→Option (Int×Int)} {x:Tr} (hM:∀ a,(M a).isSome=true→M (tyArr a)=M a) (hS:∀ a,(M a).isSome=true→simpB (tyArr a)=simpB a) (h:(measI M x).isSome=true):measI M (tyI x)=measI M x:=by
 rcases measI_cases h with ⟨h1,h2,h3,h4⟩ | ⟨h1,h2,h3,h4⟩ | ⟨h1,h2,h3,h4,h5,h6⟩
 · rw [tyI_1 h1,whole_meas M (by omega) (by omega),measI_num h1 ⟨h2,h3,h4⟩]
 · rw [tyI_2 h1,measI_ch h1 ⟨h2,h3,h4⟩]
   exact measI_ch (t:=charT 32) rfl ⟨Or.inl ⟨by show (0:Int)≤32;omega,by show (32:Int)<55296;omega⟩,rfl,rfl⟩
 · rw [tyI_3 h1,measI_box h1 ⟨h2,h3,h4,h5⟩]
   have hg:(x.kids.map tyArr).getD 0 tr0=tyArr (x.kids.getD 0 tr0):=map_getD (by omega);rw [measI_box (t:=.mk 3 false [] [] 0 (x.kids.map tyArr)) rfl ⟨rfl,rfl,by show (x.kids.map tyArr).length=1;rw [List.length_map];exact h4,by show simpB ((x.kids.map tyArr).getD 0 tr0)=false;rw [hg,hS _ h6];exact h5⟩];show M ((x.kids.map tyArr).getD 0 tr0)=_;rw [hg,hM _ h6]
/-- A type is as deep and as great as what it is of. -/
theorem ty_meas:∀ (L:Nat) (t:Tr),(measF L t).isSome=true→measF L (tyArr t)=measF L t
 | 0,t,h=>by rw [measF] at h;cases h
 | L+1,t,h=>by
  obtain ⟨L',e,_,m2,m3,_,m5⟩:=measF_some h;obtain rfl:L'=L:=by omega
  have hs:=ty_simp h;rw [measF_succ ⟨m2,m3⟩,measF_succ ⟨by rw [tyArr_ns];exact m2,by rw [tyArr_ns,tyArr_kids,List.length_map];exact m3⟩];rw [tyArr_kids,List.length_map,measL_congr (I:=measI (measF L')) t.kids _ (fun x hx=>tyI_meas (fun a ha=>ty_meas L' a ha) (fun a ha=>ty_simp ha) (m5 x hx))];unfold finM;rw [hs]
section
variable {ch:Int} {a1 a2 a3:Option Addr} {n1 n2 n3 c1 c2 c3:Nat} {w:World} {b:Bool}
theorem typeOf_ch:Calls Tryz.prog 20 #[.agg #[.int .u8 2,.bool b,.slice a1 n1 c1,.slice a2 n2 c2,.int .i32 ch,.slice a3 n3 c3]] w fun e w'=>e=.returned (.agg #[.int .u8 2,.bool false,.slice none 0 0,.slice none 0 0,.int .i32 32,.slice none 0 0])∧Below w.heap.size w w':=by
 have X0:=boxA_new w #[.int .u8 2,.bool b,.slice a1 n1 c1,.slice a2 n2 c2,.int .i32 ch,.slice a3 n3 c3] 68;have k0:=below_alloc w (.cells #[.int .u8 2,.bool b,.slice a1 n1 c1,.slice a2 n2 c2,.int .i32 ch,.slice a3 n3 c3] 68);have k1:=below_alloc (w.alloc (.cells #[.int .u8 2,.bool b,.slice a1 n1 c1,.slice a2 n2 c2,.int .i32 ch,.slice a3 n3 c3] 68)) (.cells #[.int .u8 0,.bool false,.slice none 0 0,.slice none 0 0,.int .i32 0,.slice none 0 0] 68);have R:=boxA_new (w.alloc (.cells #[.int .u8 2,.bool b,.slice a1 n1 c1,.slice a2 n2 c2,.int .i32 ch,.slice a3 n3 c3] 68)) #[.int .u8 0,.bool false,.slice none 0 0,.slice none 0 0,.int .i32 0,.slice none 0 0] 68;rw [World.size_alloc] at R;have X:=X0.below k1 (by simp);have g:Below w.heap.size w _:=k0.trans (k1.mono (by simp));have sv:((w.alloc (.cells #[.int .u8 2,.bool b,.slice a1 n1 c1,.slice a2 n2 c2,.int .i32 ch,.slice a3 n3 c3] 68)).alloc (.cells #[.int .u8 0,.bool false,.slice none 0 0,.slice none 0 0,.int .i32 0,.slice none 0 0] 68)).heap.size=w.heap.size+1+1:=by simp
 have X0':=X.cell 0 rfl;go_enter Tryz.func20,Tryz.ntmps20
 go_wp2_with fail
 generalize hA:(w.alloc (.cells #[.int .u8 2,.bool b,.slice a1 n1 c1,.slice a2 n2 c2,.int .i32 ch,.slice a3 n3 c3] 68)).alloc (.cells #[.int .u8 0,.bool false,.slice none 0 0,.slice none 0 0,.int .i32 0,.slice none 0 0] 68)=v at *;clear hA k0 k1 X0;refine (character3_any 32 _).mono ?_;rintro e w1 ⟨rfl,hw⟩;have kx:=below_alloc v (.cells #[.int .u8 2,.bool false,.slice none 0 0,.slice none 0 0,.int .i32 32,.slice none 0 0] 68);rw [← hw] at kx;clear hw;have Rc:=R.below kx (by omega);have q0:=Rc.cell 0 rfl;have q1:=Rc.cell 1 rfl;have q2:=Rc.cell 2 rfl;have q3:=Rc.cell 3 rfl;have q4:=Rc.cell 4 rfl;have q5:=Rc.cell 5 rfl;have p0:=Rc.frozen 0;have p1:=Rc.frozen 1;have p2:=Rc.frozen 2;have p3:=Rc.frozen 3;have p4:=Rc.frozen 4;have p5:=Rc.frozen 5;go_wp2
 have Rd6:=Rc.set6 (.int .u8 2) (.bool false) (.slice none 0 0) (.slice none 0 0) (.int .i32 32) (.slice none 0 0);have r0:=Rd6.cell 0 rfl;have r1:=Rd6.cell 1 rfl;have r2:=Rd6.cell 2 rfl;have r3:=Rd6.cell 3 rfl;have r4:=Rd6.cell 4 rfl;have r5:=Rd6.cell 5 rfl
 try simp only [Exit.inBlock,Exit.then]
 refine bodyPost_ret (v:=.agg #[.int .u8 2,.bool false,.slice none 0 0,.slice none 0 0,.int .i32 32,.slice none 0 0]) ?_ rfl ?_
 · simp [results,Tryz.results20,go_sem,r0,r1,r2,r3,r4,r5]
 exact ⟨rfl,Below.set6 (g.trans (kx.mono (by omega))) (by omega) _ _ _ _ _ _⟩
theorem typeOf_num:Calls Tryz.prog 20 #[.agg #[.int .u8 1,.bool b,.slice a1 n1 c1,.slice a2 n2 c2,.int .i32 ch,.slice a3 n3 c3]] w fun e w'=>∃ bo ns ds z1 u1 z2 u2,Hid (WholeIs 0 bo ns ds)∧e=.returned (.agg #[.int .u8 1,.bool bo,.slice z1 ns.length u1,.slice z2 ds.length u2,.int .i32 0,.slice none 0 0])∧Own w.heap.size w' (.slice z1 ns.length u1) ns∧Own w.heap.size w' (.slice z2 ds.length u2) ds∧Below w.heap.size w w':=by
 have X0:=boxA_new w #[.int .u8 1,.bool b,.slice a1 n1 c1,.slice a2 n2 c2,.int .i32 ch,.slice a3 n3 c3] 68;have k0:=below_alloc w (.cells #[.int .u8 1,.bool b,.slice a1 n1 c1,.slice a2 n2 c2,.int .i32 ch,.slice a3 n3 c3] 68);have k1:=below_alloc (w.alloc (.cells #[.int .u8 1,.bool b,.slice a1 n1 c1,.slice a2 n2 c2,.int .i32 ch,.slice a3 n3 c3] 68)) (.cells #[.int .u8 0,.bool false,.slice none 0 0,.slice none 0 0,.int .i32 0,.slice none 0 0] 68);have R:=boxA_new (w.alloc (.cells #[.int .u8 1,.bool b,.slice a1 n1 c1,.slice a2 n2 c2,.int .i32 ch,.slice a3 n3 c3] 68)) #[.int .u8 0,.bool false,.slice none 0 0,.slice none 0 0,.int .i32 0,.slice none 0 0] 68;rw [World.size_alloc] at R;have X:=X0.below k1 (by simp);have g:Below w.heap.size w _:=k0.trans (k1.mono (by simp));have sv:((w.alloc (.cells #[.int .u8 1,.bool b,.slice a1 n1 c1,.slice a2 n2 c2,.int .i32 ch,.slice a3 n3 c3] 68)).alloc (.cells #[.int .u8 0,.bool false,.slice none 0 0,.slice none 0 0,.int .i32 0,.slice none 0 0] 68)).heap.size=w.heap.size+1+1:=by simp
 have X0':=X.cell 0 rfl;go_enter Tryz.func20,Tryz.ntmps20
 go_wp2_with fail
 generalize hA:(w.alloc (.cells #[.int .u8 1,.bool b,.slice a1 n1 c1,.slice a2 n2 c2,.int .i32 ch,.slice a3 n3 c3] 68)).alloc (.cells #[.int .u8 0,.bool false,.slice none 0 0,.slice none 0 0,.int .i32 0,.slice none 0 0] 68)=v at *;clear hA k0 k1 X0;refine (ofInt_any 0 (by omega) (by omega) _).mono ?_;rintro e w1 ⟨q1,bo,on,od,o1,o2,o3,o4,HO,rfl,oo,oe⟩
 go_wp2_with fail
 refine number_any.mono ?_;rintro e w2 ⟨rfl,q2⟩;have s1:=q1.size;have kx:Below v.heap.size v w2:=q1.trans (q2.mono s1);have v1:=oo.below q2 (Nat.le_refl _);have v2:=oe.below q2 (Nat.le_refl _);clear oo oe;have Rc:=R.below kx (by omega);have q0:=Rc.cell 0 rfl;have q1':=Rc.cell 1 rfl;have q2':=Rc.cell 2 rfl;have q3:=Rc.cell 3 rfl;have q4:=Rc.cell 4 rfl;have q5:=Rc.cell 5 rfl;have p0:=Rc.frozen 0;have p1:=Rc.frozen 1;have p2:=Rc.frozen 2;have p3:=Rc.frozen 3;have p4:=Rc.frozen 4;have p5:=Rc.frozen 5;go_wp2
 have Rd6:=Rc.set6 (.int .u8 1) (.bool bo) (.slice o1 on.length o2) (.slice o3 od.length o4) (.int .i32 0) (.slice none 0 0);have r0:=Rd6.cell 0 rfl;have r1:=Rd6.cell 1 rfl;have r2:=Rd6.cell 2 rfl;have r3:=Rd6.cell 3 rfl;have r4:=Rd6.cell 4 rfl;have r5:=Rd6.cell 5 rfl
 try simp only [Exit.inBlock,Exit.then]
 refine bodyPost_ret (v:=.agg #[.int .u8 1,.bool bo,.slice o1 on.length o2,.slice o3 od.length o4,.int .i32 0,.slice none 0 0]) ?_ rfl ?_
 · simp [results,Tryz.results20,go_sem,r0,r1,r2,r3,r4,r5]
 refine ⟨bo,on,od,o1,o2,o3,o4,HO,rfl,?_,?_,Below.set6 (g.trans (kx.mono (by omega))) (by omega) _ _ _ _ _ _⟩
 · exact (v1.set6 (by omega) _ _ _ _ _ _).mono (by omega)
 · exact (v2.set6 (by omega) _ _ _ _ _ _).mono (by omega)
end
section
variable {f:Nat} {D:Nat→Prop} {w:World} {b:Bool} {a1 a2:Option Addr} {n1 n2 c1 c2 c3 g3 o3:Nat} {ch:Int} {x1:Option Addr} {y1:Nat} {x2:Option Addr} {y2:Nat} {a a':Tr}
theorem typeOf_box (hc0:w.cell? ⟨g3,o3,none⟩=some (.slice x1 a.ns.length y1)) (hc1:w.cell? ⟨g3,o3+1,none⟩=some (.slice x2 a.kids.length y2)) (lg:g3<w.heap.size) (h:ArV (f+1) D w (.slice x1 a.ns.length y1) (.slice x2 a.kids.length y2) a) (hD:∀ g,D g→g<w.heap.size) (hs1:a.ns.length*8≤140737488355328) (hs2:a.kids.length*96≤140737488355328) (hns:a'.ns=a.ns) (hkl:a'.kids.length=a.kids.length) (hwk:WorkT f D a.kids a'.kids) :
    Calls Tryz.prog 20 #[.agg #[.int .u8 3,.bool b,.slice a1 n1 c1,.slice a2 n2 c2,.int .i32 ch,.slice (some ⟨g3,o3,none⟩) 1 c3]] w fun e w'=>∃ k z1 u1 z2 u2 w1,e=.returned (.agg #[.int .u8 3,.bool false,.slice none 0 0,.slice none 0 0,.int .i32 0,.slice (some ⟨k,0,none⟩) 1 1])∧w.heap.size≤k∧BoxA w' k 25 #[.slice z1 a.ns.length u1,.slice z2 a.kids.length u2]∧ArV (f+1) (Fr w.heap.size w1.heap.size) w1 (.slice z1 a.ns.length u1) (.slice z2 a.kids.length u2) a'∧Below w1.heap.size w1 w'∧Below w.heap.size w w':=by
 have X0:=boxA_new w #[.int .u8 3,.bool b,.slice a1 n1 c1,.slice a2 n2 c2,.int .i32 ch,.slice (some ⟨g3,o3,none⟩) 1 c3] 68;have k0:=below_alloc w (.cells #[.int .u8 3,.bool b,.slice a1 n1 c1,.slice a2 n2 c2,.int .i32 ch,.slice (some ⟨g3,o3,none⟩) 1 c3] 68);have k1:=below_alloc (w.alloc (.cells #[.int .u8 3,.bool b,.slice a1 n1 c1,.slice a2 n2 c2,.int .i32 ch,.slice (some ⟨g3,o3,none⟩) 1 c3] 68)) (.cells #[.int .u8 0,.bool false,.slice none 0 0,.slice none 0 0,.int .i32 0,.slice none 0 0] 68);have R:=boxA_new (w.alloc (.cells #[.int .u8 3,.bool b,.slice a1 n1 c1,.slice a2 n2 c2,.int .i32 ch,.slice (some ⟨g3,o3,none⟩) 1 c3] 68)) #[.int .u8 0,.bool false,.slice none 0 0,.slice none 0 0,.int .i32 0,.slice none 0 0] 68;rw [World.size_alloc] at R;have X:=X0.below k1 (by simp);have g:Below w.heap.size w _:=k0.trans (k1.mono (by simp));have sv:((w.alloc (.cells #[.int .u8 3,.bool b,.slice a1 n1 c1,.slice a2 n2 c2,.int .i32 ch,.slice (some ⟨g3,o3,none⟩) 1 c3] 68)).alloc (.cells #[.int .u8 0,.bool false,.slice none 0 0,.slice none 0 0,.int .i32 0,.slice none 0 0] 68)).heap.size=w.heap.size+1+1:=by simp
 have X0':=X.cell 0 rfl;have X5:=X.cell 5 rfl;have e0:=(g.cell (p:=⟨g3,o3,none⟩) lg).trans hc0;have e1:=(g.cell (p:=⟨g3,o3+1,none⟩) lg).trans hc1;have T:=throughT_any (h.agree (Agree.of g hD)) (fun g' hg=>by have:=hD g' hg;omega) hs1 hs2 hns hkl hwk;clear h hD hwk hns hkl hc0 hc1;go_enter Tryz.func20,Tryz.ntmps20
 go_wp2_with fail
 generalize hA:(w.alloc (.cells #[.int .u8 3,.bool b,.slice a1 n1 c1,.slice a2 n2 c2,.int .i32 ch,.slice (some ⟨g3,o3,none⟩) 1 c3] 68)).alloc (.cells #[.int .u8 0,.bool false,.slice none 0 0,.slice none 0 0,.int .i32 0,.slice none 0 0] 68)=v at *;clear hA k0 k1 X0 X0' X5 e0 e1;refine T.mono ?_;rintro e w1 ⟨z1,u1,z2,u2,rfl,hv,q1⟩;clear T;have HV:Hid (ArV (f+1) (Fr v.heap.size w1.heap.size) w1 (.slice z1 a.ns.length u1) (.slice z2 a.kids.length u2) a'):=hv;clear hv
 go_wp2_with fail
 refine box_any.mono ?_;rintro e w2 ⟨k,rfl,hk,hB,q2⟩;have s1:=q1.size;have kx:Below v.heap.size v w2:=q1.trans (q2.mono s1);have Rc:=R.below kx (by omega);have q0:=Rc.cell 0 rfl;have q1':=Rc.cell 1 rfl;have q2':=Rc.cell 2 rfl;have q3:=Rc.cell 3 rfl;have q4:=Rc.cell 4 rfl;have q5:=Rc.cell 5 rfl;have p0:=Rc.frozen 0;have p1:=Rc.frozen 1;have p2:=Rc.frozen 2;have p3:=Rc.frozen 3;have p4:=Rc.frozen 4;have p5:=Rc.frozen 5;go_wp2
 have Rd6:=Rc.set6 (.int .u8 3) (.bool false) (.slice none 0 0) (.slice none 0 0) (.int .i32 0) (.slice (some ⟨k,0,none⟩) 1 1);have r0:=Rd6.cell 0 rfl;have r1:=Rd6.cell 1 rfl;have r2:=Rd6.cell 2 rfl;have r3:=Rd6.cell 3 rfl;have r4:=Rd6.cell 4 rfl;have r5:=Rd6.cell 5 rfl
 try simp only [Exit.inBlock,Exit.then]
 refine bodyPost_ret (v:=.agg #[.int .u8 3,.bool false,.slice none 0 0,.slice none 0 0,.int .i32 0,.slice (some ⟨k,0,none⟩) 1 1]) ?_ rfl ?_
 · simp [results,Tryz.results20,go_sem,r0,r1,r2,r3,r4,r5]
 have hne:w.heap.size+1≠k:=by omega
 refine ⟨k,z1,u1,z2,u2,(((((w1.setCell ⟨w.heap.size+1,0,none⟩ (.int .u8 3)).setCell ⟨w.heap.size+1,1,none⟩ (.bool false)).setCell ⟨w.heap.size+1,2,none⟩ (.slice none 0 0)).setCell ⟨w.heap.size+1,3,none⟩ (.slice none 0 0)).setCell ⟨w.heap.size+1,4,none⟩ (.int .i32 0)).setCell ⟨w.heap.size+1,5,none⟩ (.slice (some ⟨k,0,none⟩) 1 1),rfl,by omega,?_,?_,?_,Below.set6 (g.trans (kx.mono (by omega))) (by omega) _ _ _ _ _ _⟩
 · exact boxA_o6 hB hne _ _ _ _ _ _
 · refine ArV.imp ?_ ?_ (f+1) (f+1) _ _ _ (Nat.le_refl _) HV.out
   · rintro g' ⟨h1,h2⟩;exact ⟨by omega,by rw [set6_size];exact h2⟩
   · rintro g' ⟨h1,h2⟩;exact set6_other (by omega) _ _ _ _ _ _
 · exact below_both6 q2 _ _ _ _ _ _
end
/-- array.typeOf of a right item: its type, in blocks of its own. -/
theorem typeOf_all:∀ (f L:Nat) (D:Nat→Prop) (W:World) (x:IV) (t:Tr),(∀ g,D g→g<W.heap.size)→IsIt f D W x t→(measI (measF L) t).isSome=true →
    Calls Tryz.prog 20 #[.agg #[.int .u8 x.k,.bool x.b,.slice x.a1 x.n1 x.c1,.slice x.a2 x.n2 x.c2,.int .i32 x.c,.slice x.a3 x.n3 x.c3]] W fun e w'=>∃ y:IV,e=.returned (.agg #[.int .u8 y.k,.bool y.b,.slice y.a1 y.n1 y.c1,.slice y.a2 y.n2 y.c2,.int .i32 y.c,.slice y.a3 y.n3 y.c3])∧IsIt f (Fr W.heap.size w'.heap.size) w' y (tyI t)∧Below W.heap.size W w':=by
 intro f
 induction f with
 | zero=>
  intro L D W x t hD hx hm;rcases measI_cases hm with ⟨h1,h2,h3,h4⟩ | ⟨h1,h2,h3,h4⟩ | ⟨h1,h2,h3,h4,h5,h6⟩
  · have e1:=hx.k
    rw [h1] at e1;rw [e1,tyI_1 h1];refine typeOf_num.mono ?_;rintro e w' ⟨bo,ns,ds,z1,u1,z2,u2,HO,rfl,o1,o2,k⟩;rw [← wholeIs_eq (by omega) (by omega) HO.out];exact ⟨⟨1,bo,z1,ns.length,u1,z2,ds.length,u2,0,none,0,0⟩,rfl,isIt_num (t:=numT bo ns ds) rfl rfl rfl o1 o2,k⟩
  · have e1:=hx.k
    rw [h1] at e1;rw [e1,tyI_2 h1];refine typeOf_ch.mono ?_;rintro e w' ⟨rfl,k⟩;exact ⟨⟨2,false,none,0,0,none,0,0,32,none,0,0⟩,rfl,isIt_ch (t:=charT 32) rfl rfl rfl rfl rfl,k⟩
  · exfalso
    obtain ⟨g1,o1,_,_,hc⟩:=hx.v.bx.ptr (by omega);obtain ⟨_,_,_,_,_,_,_,_,hv⟩:=hc 0 (by omega);exact hv.elim
 | succ f ih=>
  intro L D W x t hD hx hm;rcases measI_cases hm with ⟨h1,h2,h3,h4⟩ | ⟨h1,h2,h3,h4⟩ | ⟨h1,h2,h3,h4,h5,h6⟩
  · have e1:=hx.k
    rw [h1] at e1;rw [e1,tyI_1 h1];refine typeOf_num.mono ?_;rintro e w' ⟨bo,ns,ds,z1,u1,z2,u2,HO,rfl,o1,o2,k⟩;rw [← wholeIs_eq (by omega) (by omega) HO.out];exact ⟨⟨1,bo,z1,ns.length,u1,z2,ds.length,u2,0,none,0,0⟩,rfl,isIt_num (t:=numT bo ns ds) rfl rfl rfl o1 o2,k⟩
  · have e1:=hx.k
    rw [h1] at e1;rw [e1,tyI_2 h1];refine typeOf_ch.mono ?_;rintro e w' ⟨rfl,k⟩;exact ⟨⟨2,false,none,0,0,none,0,0,32,none,0,0⟩,rfl,isIt_ch (t:=charT 32) rfl rfl rfl rfl rfl,k⟩
  · have e1:=hx.k;have e6:=hx.n3
    rw [h1] at e1;rw [h4] at e6;obtain ⟨g1,o1,ea,hg1,hc⟩:=hx.v.bx.ptr (by omega);obtain ⟨p1,m1,r1,p2,m2,r2,c1,c2,hv⟩:=hc 0 (by omega);rw [Nat.zero_mul,Nat.add_zero] at c1 c2;obtain ⟨L',rfl,s1,s2,s3,s4,s5⟩:=measF_some h6;have hty:tyI t=.mk 3 false [] [] 0 [tyArr (t.kids.getD 0 tr0)]:=by
     rw [tyI_3 h1];obtain ⟨a,ha⟩:=List.length_eq_one_iff.1 h4;rw [ha];rfl
    rw [hty];generalize ha:t.kids.getD 0 tr0=a at *;obtain rfl:=hv.1.len;obtain rfl:=hv.2.len;rw [e1,e6,ea];refine (typeOf_box (f:=f) (D:=D) (a:=a) (a':=tyArr a) c1 c2 (hD g1 hg1) hv hD (by omega) (by omega) (tyArr_ns a) (by rw [tyArr_kids,List.length_map]) ?_).mono ?_
    · intro j y W2 hj hy hD2
      rw [tyArr_kids,map_getD hj];exact ih L' D W2 y _ hD2 hy (s5 _ (getD_memI hj))
    · rintro e w' ⟨k,z1,u1,z2,u2,w1,rfl,hk,hB,hV,kb,kw⟩
      exact ⟨⟨3,false,none,0,0,none,0,0,0,some ⟨k,0,none⟩,1,1⟩,rfl,isIt_box (t:=.mk 3 false [] [] 0 [tyArr a]) (a:=tyArr a) rfl rfl rfl rfl rfl rfl rfl hk hB hV kb,kw⟩
/-- Items whose types are made. -/
theorem workT {f:Nat} {D:Nat→Prop} {l:List Tr} {L:Nat} (h:∀ t∈l,(measI (measF L) t).isSome=true):WorkT f D l (l.map tyI):=fun j x W hj hx hD=>by
 rw [map_getD hj];exact typeOf_all f L D W x _ hD hx (h _ (getD_memI hj))
section
variable {D:Nat→Prop} {f:Nat} {W:World} {x1:Option Addr} {n1 y1:Nat} {x2:Option Addr} {n2 y2:Nat} {t:Tr}
end
end
end Go.Proofs.YtheaeggecpfcbaaGreat
