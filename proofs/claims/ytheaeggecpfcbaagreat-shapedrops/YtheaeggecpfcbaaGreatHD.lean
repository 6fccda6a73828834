/- The drawn region of shape.laidAlong: steps, and a row of rows. -/
import Derived.Test.YtheaeggecpfcbaaGreatH7
import Derived.Test.YtheaeggecpfcbaaGreatHB
import Derived.Test.YtheaeggecpfcbaaGreatKS1
import Derived.Test.YtheaeggecpfcbaaGreatH6
import Derived.Test.YtheaeggecpfcbaaGreatShelf
import Derived.Test.YtheaeggecpfcbaaGreatH9
import Derived.Test.YtheaeggecpfcbaaGreatH8
set_option maxRecDepth 100000
set_option maxHeartbeats 16000000
set_option linter.unusedVariables false
set_option linter.unusedSimpArgs false
namespace Go.Proofs.YtheaeggecpfcbaaGreat
open Go.RowKit
theorem OutI.bel {S:List (List Int)} {n k:Nat} {w2 wr:World} (h:OutI S n k w2 wr):Below w2.heap.size w2 wr:=by
 obtain ⟨_,_,_,h,_⟩:=h;exact h
theorem outI_rows {S:List (List Int)} {n:Nat} {w2 wr:World} (h:OutI S n n w2 wr) (hn:S.length=n) (h0:0<n) (hn2:n≤100):Rows2 (fun g=>w2.heap.size≤g∧g<wr.heap.size) wr (some ⟨w2.heap.size,0,none⟩) n S:=by
 obtain ⟨vs,hvl,hbx,hbel,hrow,_⟩:=h;refine ⟨by omega,by omega,Or.inr ⟨w2.heap.size,0,rfl,⟨Nat.le_refl _,hbx.lt⟩,fun j hj => ?_⟩⟩;obtain ⟨a,c,e1,e2⟩:=hrow j (by omega);rw [Nat.zero_add];exact ⟨a,c,hbx.cell j (by rw [List.getElem?_toArray];exact e1),e2.imp (fun g hg=>⟨by have:=hg.1;omega,hg.2⟩) (fun _ _=>rfl)⟩
section
variable {v:World} {x1:Option Addr} {y1 A n:Nat} {sh:List Int} {D:Nat→Prop}
theorem la_7 {Q:Exit→Act→World→Prop} {t0 t1 t2 t4 t5 t7 t8 t9 t10 t11 t12 t13 t14 t15 t16 t17 t18 t19 t20 t21 t22 t23 t24 t25 t26 t27 t28 t29 t30 t31 t32 t33 t34 t35 t36 t37 t38 t39 t40 t41 t42 t43 t44 t45 t46 t47 t48 t49 t50 t51 t52 t53 t54 t55 t56 t57 t58 t59 t60 t61 t62 t63 t64 t65 t66 t67 t68 t69 t70 t71 t72 t73:Value} (HC:Hid (∀ {w':World},Below v.heap.size v w'→w'.cell? ⟨A,0,none⟩=some (.slice x1 sh.length y1))) (HR:Hid (RdN D v (.slice x1 sh.length y1) sh)) (HD:Hid (∀ g,D g→g<v.heap.size)) (hok:ShOK sh) (h0:0<sh.length) (h8:sh.length≤8) (hn:n≤8)
    (hQ:∀ Oa Ob w',Rows2 (fun g=>v.heap.size≤g∧g<w'.heap.size∧g≠Ob) w' (some ⟨Oa,0,none⟩) sh.length (stepE sh)→BoxA w' Ob 23 (Array.replicate n (Value.slice none 0 0))→v.heap.size≤Ob→Below v.heap.size v w'→Q .normal { tmps:=#[t0,t1,t2,.pointer (some ⟨A,0,none⟩),t4,t5,.int .i64 ((n:Nat):Int),t7,t8,.slice (some ⟨Oa,0,none⟩) sh.length sh.length,.slice (some ⟨Ob,0,none⟩) n n,t11,t12,t13,t14,t15,t16,t17,t18,t19,t20,t21,t22,t23,t24,.pointer (some ⟨A,0,none⟩),.slice x1 sh.length y1,.slice (some ⟨Oa,0,none⟩) sh.length sh.length,.int .i64 ((n:Nat):Int),.slice (some ⟨Ob,0,none⟩) n n,t30,t31,t32,t33,t34,t35,t36,t37,t38,t39,t40,t41,t42,t43,t44,t45,t46,t47,t48,t49,t50,t51,t52,t53,t54,t55,t56,t57,t58,t59,t60,t61,t62,t63,t64,t65,t66,t67,t68,t69,t70,t71,t72,t73],defers:=[] } w') :
    (Code.region 7 #[{ dst:=some 25,op:=Op.fieldAddr 25 (Operand.tmp 3) 0,type:=0,pos:= "one.go:51",after:=#[],guard:=none },{ dst:=some 26,op:=Op.load 23 (Operand.tmp 25),type:=23,pos:= "one.go:51",after:=#[{ on:=0,ground:=Ground.data }],guard:=none },{ dst:=some 27,op:=Op.call { callee:=Callee.value (Operand.func 98),args:=#[Operand.tmp 26],argTypes:=#[23] },type:=120,pos:= "one.go:51",after:=#[{ on:=1,ground:=Ground.data }],guard:=none },{ dst:=some 28,op:=Op.move (Operand.tmp 6),type:=3,pos:= "one.go:51",after:=#[],guard:=none },{ dst:=some 29,op:=Op.makeSlice 120 (Operand.tmp 28) (Operand.tmp 28),type:=120,pos:= "one.go:51",after:=#[{ on:=3,ground:=Ground.data },{ on:=3,ground:=Ground.data }],guard:=none },{ dst:=some 9,op:=Op.assign (Operand.tmp 27),type:=120,pos:= "one.go:51",after:=#[{ on:=2,ground:=Ground.data },{ on:=2,ground:=Ground.chain },{ on:=0,ground:=Ground.phase },{ on:=1,ground:=Ground.phase },{ on:=2,ground:=Ground.phase },{ on:=3,ground:=Ground.textOnly Departure.lateStores },{ on:=4,ground:=Ground.textOnly Departure.lateStoresUnsure }],guard:=none },{ dst:=some 10,op:=Op.assign (Operand.tmp 29),type:=120,pos:= "one.go:51",after:=#[{ on:=4,ground:=Ground.data },{ on:=5,ground:=Ground.chain },{ on:=0,ground:=Ground.phase },{ on:=1,ground:=Ground.phase },{ on:=2,ground:=Ground.phase },{ on:=3,ground:=Ground.phase },{ on:=4,ground:=Ground.phase },{ on:=5,ground:=Ground.phase }],guard:=none }] true).wp Tryz.prog (NoPanic Q) { tmps:=#[t0,t1,t2,.pointer (some ⟨A,0,none⟩),t4,t5,.int .i64 ((n:Nat):Int),t7,t8,t9,t10,t11,t12,t13,t14,t15,t16,t17,t18,t19,t20,t21,t22,t23,t24,t25,t26,t27,t28,t29,t30,t31,t32,t33,t34,t35,t36,t37,t38,t39,t40,t41,t42,t43,t44,t45,t46,t47,t48,t49,t50,t51,t52,t53,t54,t55,t56,t57,t58,t59,t60,t61,t62,t63,t64,t65,t66,t67,t68,t69,t70,t71,t72,t73],defers:=[] } v:=by
 have d1:Below v.heap.size v v.drew:=⟨rfl,rfl,rfl,Nat.le_refl _,fun _ _=>rfl⟩;have j0:=HC.out d1;have hmr:=make_rows n (by omega);refine wp_region_held_drew (S:=(fun w'=>w'.cell? ⟨A,0,none⟩=some (.slice x1 sh.length y1))) (by kernel_rfl) j0 (fun hS => ?_);refine wpAnyH_take (i:=0) (oi:={ dst:=some 25,op:=Op.fieldAddr 25 (Operand.tmp 3) 0,type:=0,pos:= "one.go:51",after:=#[],guard:=none }) (v:=.pointer (some ⟨A,0,none⟩)) rfl (by kernel_rfl) (by kernel_rfl) (by kernel_rfl) (fun _ _ _ h=>h) (Or.inl ⟨by rfl,(by intro w hSw;(try dsimp only at hSw);go_simp)⟩) (by assumption) ?_;simp only [Act.put,List.setIfInBounds_toArray,List.set_cons_zero,List.set_cons_succ];refine wpAnyH_take (i:=1) (oi:={ dst:=some 26,op:=Op.load 23 (Operand.tmp 25),type:=23,pos:= "one.go:51",after:=#[{ on:=0,ground:=Ground.data }],guard:=none }) (v:=.slice x1 sh.length y1) rfl (by kernel_rfl) (by kernel_rfl) (by kernel_rfl) (fun _ _ _ h=>h) (Or.inl ⟨by rfl,(by intro w hSw;(try dsimp only at hSw);go_simp)⟩) (by assumption) ?_;simp only [Act.put,List.setIfInBounds_toArray,List.set_cons_zero,List.set_cons_succ];refine wpAnyH_take (i:=3) (oi:={ dst:=some 28,op:=Op.move (Operand.tmp 6),type:=3,pos:= "one.go:51",after:=#[],guard:=none }) (v:=.int .i64 ((n:Nat):Int)) rfl (by kernel_rfl) (by kernel_rfl) (by kernel_rfl) (fun _ _ _ h=>h) (Or.inl ⟨by rfl,(by intro w hSw;(try dsimp only at hSw);go_simp)⟩) (by assumption) ?_;simp only [Act.put,List.setIfInBounds_toArray,List.set_cons_zero,List.set_cons_succ];refine wpAnyH_ready (rs:=[2,4]) (by kernel_rfl) (by simp) ?_;refine (AllReadyH.cons (o:={ dst:=some 27,op:=Op.call { callee:=Callee.value (Operand.func 98),args:=#[Operand.tmp 26],argTypes:=#[23] },type:=120,pos:= "one.go:51",after:=#[{ on:=1,ground:=Ground.data }],guard:=none }) rfl (fun K hK => ?_) (AllReadyH.cons (o:={ dst:=some 29,op:=Op.makeSlice 120 (Operand.tmp 28) (Operand.tmp 28),type:=120,pos:= "one.go:51",after:=#[{ on:=3,ground:=Ground.data },{ on:=3,ground:=Ground.data }],guard:=none }) rfl (fun K hK => ?_) AllReadyH.nil))
 · go_simp
   refine (steps_any (w:=v.drew) (HR.out.imp (fun _ h=>h) (Agree.of d1 HD.out)) (fun g hg=>by have:=HD.out g hg;have:=d1.size;omega) hok).mono ?_;rintro e wT ⟨w2,rfl,p2,hO⟩;have s2:v.drew.heap.size≤w2.heap.size:=p2.size;have hOr:=outI_rows hO (by rw [stepE_len]) (by omega) (by omega);have sT:=hO.bel.size;have kT:Below v.heap.size v wT:=d1.trans ((p2.trans (hO.bel.mono p2.size)).mono d1.size);have jT:=HC.out kT;go_simp
   refine hK.out _ _ (jT) (fun _ => ?_);clear hK K;refine wpAnyH_take (i:=5) (oi:={ dst:=some 9,op:=Op.assign (Operand.tmp 27),type:=120,pos:= "one.go:51",after:=#[{ on:=2,ground:=Ground.data },{ on:=2,ground:=Ground.chain },{ on:=0,ground:=Ground.phase },{ on:=1,ground:=Ground.phase },{ on:=2,ground:=Ground.phase },{ on:=3,ground:=Ground.textOnly Departure.lateStores },{ on:=4,ground:=Ground.textOnly Departure.lateStoresUnsure }],guard:=none }) (v:=.slice (some ⟨w2.heap.size,0,none⟩) sh.length sh.length) rfl (by kernel_rfl) (by kernel_rfl) (by kernel_rfl) (fun _ _ _ h=>h) (Or.inl ⟨by rfl,(by intro w hSw;(try dsimp only at hSw);go_simp)⟩) (by assumption) ?_;simp only [Act.put,List.setIfInBounds_toArray,List.set_cons_zero,List.set_cons_succ];refine wpAnyH_ready (rs:=[4]) (by kernel_rfl) (by simp) ?_;refine (AllReadyH.cons (o:={ dst:=some 29,op:=Op.makeSlice 120 (Operand.tmp 28) (Operand.tmp 28),type:=120,pos:= "one.go:51",after:=#[{ on:=3,ground:=Ground.data },{ on:=3,ground:=Ground.data }],guard:=none }) rfl (fun K hK => ?_) AllReadyH.nil);go_simp
   have kA:Below v.heap.size v (wT.alloc (.cells (Array.replicate n (Value.slice none 0 0)) 23)):=kT.trans ((below_alloc wT (.cells (Array.replicate n (Value.slice none 0 0)) 23)).mono kT.size);have jA:=HC.out kA;have BA:=boxA_new wT (Array.replicate n (Value.slice none 0 0)) 23;have hOr2:=hOr.imp (D':=fun g=>v.heap.size≤g∧g<(wT.alloc (.cells (Array.replicate n (Value.slice none 0 0)) 23)).heap.size∧g≠wT.heap.size) (fun g hg=>⟨by have:=hg.1;have:v.drew.heap.size=v.heap.size:=rfl;omega,by have:=hg.2;have:=(below_alloc wT (.cells (Array.replicate n (Value.slice none 0 0)) 23)).size;omega,by have:=hg.2;omega⟩) (fun g hg=>(below_alloc wT (.cells (Array.replicate n (Value.slice none 0 0)) 23)).block g hg.2);go_simp
   refine hK.out _ _ (jA) (fun _ => ?_);clear hK K;refine wpAnyH_take (i:=6) (oi:={ dst:=some 10,op:=Op.assign (Operand.tmp 29),type:=120,pos:= "one.go:51",after:=#[{ on:=4,ground:=Ground.data },{ on:=5,ground:=Ground.chain },{ on:=0,ground:=Ground.phase },{ on:=1,ground:=Ground.phase },{ on:=2,ground:=Ground.phase },{ on:=3,ground:=Ground.phase },{ on:=4,ground:=Ground.phase },{ on:=5,ground:=Ground.phase }],guard:=none }) (v:=.slice (some ⟨wT.heap.size,0,none⟩) n n) rfl (by kernel_rfl) (by kernel_rfl) (by kernel_rfl) (fun _ _ _ h=>h) (Or.inl ⟨by rfl,(by intro w hSw;(try dsimp only at hSw);go_simp)⟩) (by assumption) ?_;simp only [Act.put,List.setIfInBounds_toArray,List.set_cons_zero,List.set_cons_succ];refine wpAnyH_done (by kernel_rfl) ?_ _;exact noPanic_ok (hQ _ _ _ hOr2 BA kT.size kA)
 · go_simp
   have kA:Below v.heap.size v (v.drew.alloc (.cells (Array.replicate n (Value.slice none 0 0)) 23)):=d1.trans ((below_alloc v.drew (.cells (Array.replicate n (Value.slice none 0 0)) 23)).mono d1.size);have jA:=HC.out kA;have BA:=boxA_new v.drew (Array.replicate n (Value.slice none 0 0)) 23;go_simp
   refine hK.out _ _ (jA) (fun _ => ?_);clear hK K;refine wpAnyH_ready (rs:=[2]) (by kernel_rfl) (by simp) ?_;refine (AllReadyH.cons (o:={ dst:=some 27,op:=Op.call { callee:=Callee.value (Operand.func 98),args:=#[Operand.tmp 26],argTypes:=#[23] },type:=120,pos:= "one.go:51",after:=#[{ on:=1,ground:=Ground.data }],guard:=none }) rfl (fun K hK => ?_) AllReadyH.nil);go_simp
   refine (steps_any (w:=(v.drew.alloc (.cells (Array.replicate n (Value.slice none 0 0)) 23))) (HR.out.imp (fun _ h=>h) (Agree.of kA HD.out)) (fun g hg=>by have:=HD.out g hg;have:=kA.size;omega) hok).mono ?_;rintro e wT ⟨w2,rfl,p2,hO⟩;have s2:(v.drew.alloc (.cells (Array.replicate n (Value.slice none 0 0)) 23)).heap.size≤w2.heap.size:=p2.size;have hOr:=outI_rows hO (by rw [stepE_len]) (by omega) (by omega);have sT:=hO.bel.size;have kT:Below v.heap.size v wT:=kA.trans ((p2.trans (hO.bel.mono p2.size)).mono kA.size);have jT:=HC.out kT;have BB:=BA.below (p2.trans (hO.bel.mono p2.size)) BA.lt;go_simp
   refine hK.out _ _ (jT) (fun _ => ?_);clear hK K;refine wpAnyH_take (i:=5) (oi:={ dst:=some 9,op:=Op.assign (Operand.tmp 27),type:=120,pos:= "one.go:51",after:=#[{ on:=2,ground:=Ground.data },{ on:=2,ground:=Ground.chain },{ on:=0,ground:=Ground.phase },{ on:=1,ground:=Ground.phase },{ on:=2,ground:=Ground.phase },{ on:=3,ground:=Ground.textOnly Departure.lateStores },{ on:=4,ground:=Ground.textOnly Departure.lateStoresUnsure }],guard:=none }) (v:=.slice (some ⟨w2.heap.size,0,none⟩) sh.length sh.length) rfl (by kernel_rfl) (by kernel_rfl) (by kernel_rfl) (fun _ _ _ h=>h) (Or.inl ⟨by rfl,(by intro w hSw;(try dsimp only at hSw);go_simp)⟩) (by assumption) ?_;simp only [Act.put,List.setIfInBounds_toArray,List.set_cons_zero,List.set_cons_succ];refine wpAnyH_take (i:=6) (oi:={ dst:=some 10,op:=Op.assign (Operand.tmp 29),type:=120,pos:= "one.go:51",after:=#[{ on:=4,ground:=Ground.data },{ on:=5,ground:=Ground.chain },{ on:=0,ground:=Ground.phase },{ on:=1,ground:=Ground.phase },{ on:=2,ground:=Ground.phase },{ on:=3,ground:=Ground.phase },{ on:=4,ground:=Ground.phase },{ on:=5,ground:=Ground.phase }],guard:=none }) (v:=.slice (some ⟨v.heap.size,0,none⟩) n n) rfl (by kernel_rfl) (by kernel_rfl) (by kernel_rfl) (fun _ _ _ h=>h) (Or.inl ⟨by rfl,(by intro w hSw;(try dsimp only at hSw);go_simp)⟩) (by assumption) ?_;simp only [Act.put,List.setIfInBounds_toArray,List.set_cons_zero,List.set_cons_succ];refine wpAnyH_done (by kernel_rfl) ?_ _;have eA:(v.drew.alloc (.cells (Array.replicate n (Value.slice none 0 0)) 23)).heap.size=v.heap.size+1:=by simp
   have hOr2:=hOr.imp (D':=fun g=>v.heap.size≤g∧g<wT.heap.size∧g≠v.heap.size) (fun g hg=>⟨by have:=hg.1;omega,hg.2,by have:=hg.1;omega⟩) (fun _ _=>rfl);exact noPanic_ok (hQ _ _ _ hOr2 BB (Nat.le_refl _) kT)
end
def oneTab:List (Int×Value):=[(9076,.func (.func 79) #[] #[]),(44,.func (.func 80) #[] #[]),(9021,.func (.func 81) #[] #[]),(8854,.func (.func 83) #[] #[]),(9033,.func (.func 84) #[] #[])]
theorem shOfOne_any (w:World):Calls Tryz.prog 48 #[] w fun e w'=>e=.returned (.map (some w.heap.size))∧MapIs w' w.heap.size oneTab∧Below w.heap.size w w':=by
 have hmm:=@run_makeMap Tryz.prog;have u0:=MapIs.new w;have km:=below_alloc w (.map #[] 0);have sv:(w.alloc (.map #[] 0)).heap.size=w.heap.size+1:=by simp
 generalize hV:w.alloc (.map #[] 0)=v0 at *;have p0:=Kp.refl w.heap.size v0;obtain ⟨v1,r1,u1,q1,t1⟩:=MapIs.put (P:=Tryz.prog) (mty:=97) (k:=9076) (v:=.func (.func 79) #[] #[]) Tryz.underlying97 Tryz.underlying21 u0 (by simp);have p1:=p0.trans q1;obtain ⟨v2,r2,u2,q2,t2⟩:=MapIs.put (P:=Tryz.prog) (mty:=97) (k:=44) (v:=.func (.func 80) #[] #[]) Tryz.underlying97 Tryz.underlying21 u1 (by simp);have p2:=p1.trans q2;obtain ⟨v3,r3,u3,q3,t3⟩:=MapIs.put (P:=Tryz.prog) (mty:=97) (k:=9021) (v:=.func (.func 81) #[] #[]) Tryz.underlying97 Tryz.underlying21 u2 (by simp);have p3:=p2.trans q3;obtain ⟨v4,r4,u4,q4,t4⟩:=MapIs.put (P:=Tryz.prog) (mty:=97) (k:=8854) (v:=.func (.func 83) #[] #[]) Tryz.underlying97 Tryz.underlying21 u3 (by simp);have p4:=p3.trans q4;obtain ⟨v5,r5,u5,q5,t5⟩:=MapIs.put (P:=Tryz.prog) (mty:=97) (k:=9033) (v:=.func (.func 84) #[] #[]) Tryz.underlying97 Tryz.underlying21 u4 (by simp);have p5:=p4.trans q5;simp only [List.nil_append,List.cons_append] at u5;go_enter Tryz.func48,Tryz.ntmps48;go_wp2
 go_ret
 exact ⟨rfl,u5,km.trans (p5.below (Nat.le_refl _) (by omega))⟩
/-- One row alone: its copy. -/
theorem diagonal_one {D:Nat→Prop} {w:World} {g o c:Nat} {ra:Option Addr} {rc:Nat} {l:List Int} (hc:w.cell? ⟨g,o,none⟩=some (.slice ra l.length rc)) (hcap:1≤c∧c≤9223372036854775807) (h:RdN D w (.slice ra l.length rc) l) (h0:0<l.length) (hl:l.length≤4096) :
    Calls Tryz.prog 147 #[.slice (some ⟨g,o,none⟩) 1 c] w fun e w'=>∃ v,e=.returned v∧Hid (OwZ w.heap.size w' v l)∧Below w.heap.size w w':=by
 obtain ⟨b,off,rfl,_,hcs⟩:=h.ptr h0;have C:=Tryz.slices_Clone_int b off l.length rc l w (Nat.le_refl _) (by omega) hcs;rw [List.take_length] at C;have hs:∀ w:World,∃ a',(Instr.sliceAt 120 (.slice (some ⟨g,o,none⟩) 1 c) (some (.int .i64 1)) none none).run Tryz.prog w=.ok (.slice a' 0 (c - 1)) w:=fun w=>by
  have hu:=Tryz.underlying120;refine ⟨if c=1 then some ⟨g,o,none⟩ else some ⟨g,o+1,none⟩,?_⟩;simp [Instr.sliceAt,Instr.slice,Instr.sliceBounds,Instr.sliceBound,go_sem,hu]
 clear hcs h;go_enter Tryz.func147,Tryz.ntmps147
 go_wp2_with fail
 refine C.mono ?_;rintro e w1 ⟨v',rfl,hO,_,q1⟩;have HO:Hid (OwZ w.heap.size w1 v' l):=hO;clear C hO;obtain ⟨a',hs'⟩:=hs w1
 go_wp2_with fail
 go_loopw [3,14] (fun vv iv wr=>vv=v'∧iv=.int .i64 0∧wr=w1) (fun _ _ _=>0)
 case atStart=>exact ⟨rfl,rfl,rfl⟩
 case round=>
  obtain ⟨rfl,rfl,hw⟩:=hrel;obtain rfl:=hw.symm;go_wp2
  go_ret
  exact ⟨_,rfl,HO,q1⟩
structure LaI (W1 wr:World) (Ob:Nat) (vs:List Value) (i:Nat):Prop where
 len:vs.length=2
 box:BoxA wr Ob 23 vs.toArray
 old:∀ g,g<W1.heap.size→g≠Ob→wr.heap[g]? = W1.heap[g]?
 size:W1.heap.size≤wr.heap.size
 r0:1≤i→∃ a c,vs[0]? = some (.slice a 2 c)∧RdN (fun g=>W1.heap.size≤g∧g<wr.heap.size) wr (.slice a 2 c) [0,1]
 r1:2≤i→∃ a c,vs[1]? = some (.slice a 2 c)∧RdN (fun g=>W1.heap.size≤g∧g<wr.heap.size) wr (.slice a 2 c) [0,2]
theorem LaI.below {W1 wr w':World} {Ob i:Nat} {vs:List Value} (h:LaI W1 wr Ob vs i) (k:Below wr.heap.size wr w'):LaI W1 w' Ob vs i:=by
 have s1:=k.size;have s2:=h.size;refine ⟨h.len,h.box.below k h.box.lt,fun g h1 h2=>by rw [k.block g (by omega)];exact h.old g h1 h2,by omega,fun hi => ?_,fun hi => ?_⟩
 · obtain ⟨a,c,e1,e2⟩:=h.r0 hi
   exact ⟨a,c,e1,e2.imp (fun g hg=>⟨hg.1,by omega⟩) (fun g hg=>k.block g hg.2)⟩
 · obtain ⟨a,c,e1,e2⟩:=h.r1 hi
   exact ⟨a,c,e1,e2.imp (fun g hg=>⟨hg.1,by omega⟩) (fun g hg=>k.block g hg.2)⟩
/-- The next row is stored. -/
theorem LaI.set {W1 wr:World} {Ob i c:Nat} {vs:List Value} {a:Option Addr} {l:List Int} (h:LaI W1 wr Ob vs i) (hO:Ob<W1.heap.size) (hi:i<2) (hl:l=if i=0 then [0,1] else [0,2]) (hv:RdN (fun g=>W1.heap.size≤g∧g<wr.heap.size) wr (.slice a 2 c) l):LaI W1 (wr.setCell ⟨Ob,i,none⟩ (.slice a 2 c)) Ob (vs.set i (.slice a 2 c)) (i+1):=by
 have ss:(wr.setCell ⟨Ob,i,none⟩ (.slice a 2 c)).heap.size=wr.heap.size:=set1_size _;have hag:∀ g,g≠Ob→(wr.setCell ⟨Ob,i,none⟩ (.slice a 2 c)).heap[g]? = wr.heap[g]?:=fun g hg=>set1_other (fun e=>hg e.symm) _;have hl2:=h.len;refine ⟨by rw [List.length_set];exact h.len,?_,fun g h1 h2=>by rw [hag g h2];exact h.old g h1 h2,by rw [ss];exact h.size,fun _ => ?_,fun h2 => ?_⟩
 · have:=h.box.putZ i (.slice a 2 c)
   rw [List.setIfInBounds_toArray] at this;exact this
 · by_cases h0:i=0
   · subst h0
     rw [if_pos rfl] at hl;subst hl;exact ⟨a,c,by rw [List.getElem?_set_self (by omega)],hv.imp (fun g hg=>⟨hg.1,by omega⟩) (fun g hg=>hag g (by omega))⟩
   · obtain ⟨a',c',e1,e2⟩:=h.r0 (by omega)
     exact ⟨a',c',by rw [List.getElem?_set_ne h0];exact e1,e2.imp (fun g hg=>⟨hg.1,by omega⟩) (fun g hg=>hag g (by omega))⟩
 · obtain rfl:i=1:=by omega
   rw [if_neg (by omega)] at hl;subst hl;exact ⟨a,c,by rw [List.getElem?_set_self (by omega)],hv.imp (fun g hg=>⟨hg.1,by omega⟩) (fun g hg=>hag g (by omega))⟩
theorem LaI.rows {W1 wr:World} {Ob:Nat} {vs:List Value} (h:LaI W1 wr Ob vs 2) (Z:Nat) (hZ:Z≤Ob) (hO:Ob<W1.heap.size):Rows2 (fun g=>Z≤g∧g<wr.heap.size) wr (some ⟨Ob,0,none⟩) 2 [[0,1],[0,2]]:=by
 have s:=h.size;refine ⟨Nat.le_refl _,by omega,Or.inr ⟨Ob,0,rfl,⟨hZ,by omega⟩,fun j hj => ?_⟩⟩;rw [Nat.zero_add]
 match j,hj with
 | 0,_=>
  obtain ⟨a,c,e1,e2⟩:=h.r0 (by omega);exact ⟨a,c,h.box.cell 0 (by rw [List.getElem?_toArray];exact e1),e2.imp (fun g hg=>⟨by omega,hg.2⟩) (fun _ _=>rfl)⟩
 | 1,_=>
  obtain ⟨a,c,e1,e2⟩:=h.r1 (by omega);exact ⟨a,c,h.box.cell 1 (by rw [List.getElem?_toArray];exact e1),e2.imp (fun g hg=>⟨by omega,hg.2⟩) (fun _ _=>rfl)⟩
theorem shOK_22:ShOK [2,2]:=by
 refine ⟨by decide,fun x hx => ?_,fun k => ?_⟩
 · simp at hx;omega
 · match k with
   | 0=>decide
   | 1=>decide
   | k+2=>simp [prodL]
theorem laid_22 {D:Nat→Prop} {f:Nat} {w:World} {x1 x2 a:Option Addr} {y1 y2 c:Nat} {its:List Tr} (hD:∀ g,D g→g<w.heap.size) (hA:ArV (f+1) D w (.slice x1 2 y1) (.slice x2 4 y2) (arrT [2,2] its)) (hl:its.length=4) (hs:∀ t∈its,∀ M,measI M t=some (0,0)) (hX:RdN D w (.slice a 2 c) [1,0]) :
    Calls Tryz.prog 111 #[.slice a 2 c,.agg #[.slice x1 2 y1,.slice x2 4 y2]] w fun e w'=>∃ z1 u1 z2 u2,e=.returned (.tuple #[.agg #[.slice z1 2 u1,.slice z2 4 u2],.int .i64 0])∧ArV (f+1) (Fr w.heap.size w'.heap.size) w' (.slice z1 2 u1) (.slice z2 4 u2) (arrT [2,2] [its.getD 0 tr0,its.getD 2 tr0,its.getD 1 tr0,its.getD 3 tr0])∧Below w.heap.size w w':=by
 obtain ⟨ga,oa,rfl,hga,hxc⟩:=hX.ptr (by show 0<2;omega);have hx0:=hxc 0 (by show 0<2;omega);have hx1:=hxc 1 (by show 1<2;omega);have hx0:w.cell? ⟨ga,oa,none⟩=some (.int .i64 1):=hx0;have hx1:w.cell? ⟨ga,oa+1,none⟩=some (.int .i64 0):=hx1;have bdx:=hX.bounds;have HD:Hid (∀ g,D g→g<w.heap.size):=hD;have HA:Hid (ArV (f+1) D w (.slice x1 2 y1) (.slice x2 4 y2) (arrT [2,2] its)):=hA;have HL:Hid (its.length=4):=hl;have HS:Hid (∀ t∈its,∀ M,measI M t=some (0,0)):=hs;have hgl:=hD ga hga;have k0:=below_alloc w (.cells #[.slice x1 2 y1,.slice x2 4 y2] 25);have X0:=boxA_new w #[.slice x1 2 y1,.slice x2 4 y2] 25;have k1:=below_alloc (w.alloc (.cells #[.slice x1 2 y1,.slice x2 4 y2] 25)) (.cells #[.slice none 0 0,.slice none 0 0] 25);have R0:=boxA_new (w.alloc (.cells #[.slice x1 2 y1,.slice x2 4 y2] 25)) #[.slice none 0 0,.slice none 0 0] 25;have X1:=X0.below k1 (by simp);have kv:Below w.heap.size w _:=k0.trans (k1.mono (by simp));have sv:((w.alloc (.cells #[.slice x1 2 y1,.slice x2 4 y2] 25)).alloc (.cells #[.slice none 0 0,.slice none 0 0] 25)).heap.size=w.heap.size+1+1:=by simp
 rw [World.size_alloc] at R0;have e0:=(kv.cell (p:=⟨ga,oa,none⟩) hgl).trans hx0;have e1:=(kv.cell (p:=⟨ga,oa+1,none⟩) hgl).trans hx1;clear hD hA hl hs hX hxc k0 k1 X0;go_enter Tryz.func111,Tryz.ntmps111
 go_wp2_with fail
 generalize hAA:(w.alloc (.cells #[.slice x1 2 y1,.slice x2 4 y2] 25)).alloc (.cells #[.slice none 0 0,.slice none 0 0] 25)=v at *;clear hAA
 go_loopw [6,16] (fun rv iv wr=>∃ i:Nat,iv=.int .i64 i∧i≤2∧rv=.int .i64 (if i=0 then 0 else 2)∧wr=v) (fun _ iv _=>2 - (intOf iv).toNat)
 case atStart=>exact ⟨0,rfl,Nat.zero_le _,rfl,rfl⟩
 case round=>
  obtain ⟨i,rfl,hil,rfl,hw⟩:=hrel;obtain rfl:=hw.symm
  match i,hil with
  | 0,_=>
   go_wp2
   go_roundw
   case rel=>exact ⟨1,rfl,by omega,by first | trivial | rfl | decide,by first | trivial | rfl⟩
   case measure=>first | decide | (simp [intOf];done) | (simp [intOf];omega)
  | 1,_=>
   go_wp2
   go_roundw
   case rel=>exact ⟨2,rfl,by omega,by first | trivial | rfl | decide,by first | trivial | rfl⟩
   case measure=>first | decide | (simp [intOf];done) | (simp [intOf];omega)
  | 2,_=>
   go_wp2_with fail
   refine wp_region_noPanic ?_;refine la_7 (n:=2) (sh:=[2,2]) (A:=w.heap.size) (D:=D) (x1:=x1) (y1:=y1) (fun k=>(X1.below k (by omega)).cell 0 rfl) (HA.out.1.imp (fun _ h=>h) (Agree.of kv HD.out)) (fun g hg=>by have:=HD.out g hg;omega) shOK_22 (by decide) (by decide) (by omega) ?_;intro Oa Ob W1 hRows hB hOb kW;simp only [show ((2:Nat):Int)=2 from rfl,show ([2,2]:List Int).length=2 from rfl] at hRows ⊢;have hSE:stepE [2,2]=[[0,2],[0,1]]:=by decide
   rw [hSE] at hRows;obtain ⟨ba,ca,eb,hba,hro⟩:∃ ra0 rc0,∃ ra1 rc1,(W1.cell? ⟨Oa,0,none⟩=some (.slice ra0 2 rc0)∧RdN (fun g=>v.heap.size≤g∧g<W1.heap.size∧g≠Ob) W1 (.slice ra0 2 rc0) [0,2])∧(W1.cell? ⟨Oa,1,none⟩=some (.slice ra1 2 rc1)∧RdN (fun g=>v.heap.size≤g∧g<W1.heap.size∧g≠Ob) W1 (.slice ra1 2 rc1) [0,1])∧(v.heap.size≤Oa∧Oa<W1.heap.size∧Oa≠Ob):=by
    obtain ⟨_,_,h | ⟨b,o,e,hd,hr⟩⟩:=hRows
    · cases h
    · cases e
      obtain ⟨r0,c0,p0,p1⟩:=hr 0 (by decide);obtain ⟨r1,c1,p2,p3⟩:=hr 1 (by decide);exact ⟨r0,c0,r1,c1,⟨p0,p1⟩,⟨p2,p3⟩,hd⟩
   obtain ⟨hq0,hq1,hOa⟩:=hro;have s1:=kW.size;have kw1:=kv.trans (kW.mono (by omega));have X2:=X1.below kW (by omega);have R2:=R0.below kW (by omega);have lOb:=hB.lt;have HQ0:Hid _:=hq0;have HQ1:Hid _:=hq1;have hi0:LaI W1 W1 Ob [.slice none 0 0,.slice none 0 0] 0:=⟨rfl,hB,fun _ _ _=>rfl,Nat.le_refl _,fun h=>by omega,fun h=>by omega⟩;have E0:=(kW.cell (p:=⟨ga,oa,none⟩) (by show ga<v.heap.size;omega)).trans e0;have E1:=(kW.cell (p:=⟨ga,oa+1,none⟩) (by show ga<v.heap.size;omega)).trans e1;clear hRows hB hq0 hq1 e0 e1 hSE X1 R0;have hix:=info_row;obtain ⟨i0,hi,hz0,hz1,hz2⟩:=info_parts hix;clear hix
   go_wp2_with fail
   go_loopw [32] (fun iv wr=>∃ (i:Nat) (vs:List Value),iv=.int .i64 i∧i≤2∧LaI W1 wr Ob vs i∧Below w.heap.size w wr) (fun iv _=>2 - (intOf iv).toNat)
   case atStart=>exact ⟨0,_,rfl,Nat.zero_le _,hi0,kw1⟩
   case round=>
    obtain ⟨i,vs,rfl,hil,hI,kwo⟩:=hrel;generalize wr=wo at *;have so:=hI.size;have HI:Hid (LaI W1 wo Ob vs i):=hI;have cA0:wo.cell? ⟨Oa,0,none⟩=some (.slice ba 2 ca):=by
     have e:=HQ0.out.1;unfold World.cell? at e ⊢;rw [hI.old Oa hOa.2.1 hOa.2.2];exact e
    have cA1:wo.cell? ⟨Oa,1,none⟩=some (.slice eb 2 hba):=by
     have e:=HQ1.out.1;unfold World.cell? at e ⊢;rw [hI.old Oa hOa.2.1 hOa.2.2];exact e
    have hsO:=kwo.size;clear hI
    match i,hil with
    | 0,_=>
     try simp only [show ((0:Nat):Int)=0 from rfl]
     go_wp2_with fail
     go_loopw [12,37] (fun tv kv wi=>∃ k:Nat,kv=.int .i64 k∧k≤2∧((k+0≤1∧tv=.slice none 0 0∧wi=wo)∨(1<k+0∧∃ g c,tv=.slice (some ⟨g,0,none⟩) 1 c∧1≤c∧c≤9223372036854775807∧wi.cell? ⟨g,0,none⟩=some (.slice eb 2 hba)∧Below wo.heap.size wo wi))) (fun _ kv _=>2 - (intOf kv).toNat)
     case atStart=>exact ⟨0,rfl,Nat.zero_le _,Or.inl ⟨by omega,rfl,rfl⟩⟩
     case round=>
      obtain ⟨k,rfl,hkl,hst⟩:=hrel
      match k,hkl with
      | 0,_=>
       obtain ⟨_,rfl,hw⟩ | ⟨h,_⟩:=hst
       rotate_left
       · omega
       obtain rfl:=hw.symm;have E0':=(kwo.cell (p:=⟨ga,oa,none⟩) hgl).trans hx0;have E1':=(kwo.cell (p:=⟨ga,oa+1,none⟩) hgl).trans hx1;go_wp2
       go_roundw
       case rel=>exact ⟨1,rfl,by omega,Or.inl ⟨by omega,rfl,by first | trivial | rfl⟩⟩
       case measure=>first | decide | (simp [intOf];done) | (simp [intOf];omega)
      | 1,_=>
       obtain ⟨_,rfl,hw⟩ | ⟨h,_⟩:=hst
       rotate_left
       · omega
       obtain rfl:=hw.symm;have E0':=(kwo.cell (p:=⟨ga,oa,none⟩) hgl).trans hx0;have E1':=(kwo.cell (p:=⟨ga,oa+1,none⟩) hgl).trans hx1
       go_wp2_with (at_builtin;refine wpList_append_own _ rfl _ _ 120 rfl wo.heap.size 23 i0 (.slice none 0 0) 1 24 Tryz.underlying120 hi hz0 hz1 hz2 rfl (by decide) _ 0 [] rfl (World.ownsRow_nil _ _ _ _) ⟨wo.heap.size,0,none⟩ 1 1 [.slice eb 2 hba] rfl rfl (cells_new wo #[.slice eb 2 hba] _) (by intro u hu;simp at hu;subst hu;rfl) (by decide) (by decide) (by simp) ?_)
       intro v' wi hown hgr _;have kwi:Below wo.heap.size wo wi:=(below_alloc wo (.cells #[.slice eb 2 hba] 23)).grown hgr (by simp) (fun k e=>by cases e);obtain ⟨_,⟨_,h⟩ | ⟨g,cap,cur,rfl,hg,hh,h2,h3,_⟩⟩:=id hown
       · cases h
       have hcg:=hown.cellAt 0 (by decide);have HCG:Hid (wi.cell? ⟨g,0,none⟩=some (.slice eb 2 hba)):=hcg;have hcap:1≤cap∧cap≤9223372036854775807:=⟨by omega,by unfold maxLen at h3;omega⟩;clear hown hgr hcg hh h2 h3;go_wp2
       go_roundw
       case rel=>exact ⟨2,rfl,by omega,Or.inr ⟨by omega,g,cap,rfl,hcap.1,hcap.2,HCG.out,kwi⟩⟩
       case measure=>first | decide | (simp [intOf];done) | (simp [intOf];omega)
      | 2,_=>
       obtain ⟨h,_⟩ | ⟨_,g,c,rfl,hc1,hc2,hcg,kwi⟩:=hst
       · omega
       have swi:=kwi.size;have hrow:RdN (fun q=>v.heap.size≤q∧q<W1.heap.size∧q≠Ob) wr (.slice eb 2 hba) [0,1]:=HQ1.out.2.imp (fun _ h=>h) (fun q hq=>by rw [kwi.block q (by have:=hq.2.1;omega)];exact HI.out.old q hq.2.1 hq.2.2);have C:=diagonal_one (c:=c) hcg ⟨hc1,hc2⟩ hrow (by decide) (by decide);have hI2:=HI.out.below kwi
       go_wp2_with fail
       refine C.mono ?_;rintro e w5 ⟨vv,rfl,hO,q5⟩;obtain ⟨va,vc,hvf⟩:=owZ_form hO.out;subst hvf;have hI3:=hI2.below q5;have s5:=q5.size;have hRv:=(OwZ.rd hO.out (fun x hx=>by simp at hx;omega)).imp (D':=fun q=>W1.heap.size≤q∧q<w5.heap.size) (fun q hq=>⟨by have:=hq.1;omega,hq.2⟩) (fun _ _=>rfl);have hI4:=hI3.set (i:=0) (by omega) (by decide) (by rfl) hRv;have HI4:Hid _:=hI4;have hv0:∃ u,vs[0]? = some u:=⟨_,List.getElem?_eq_getElem (by have:=hI3.len;omega)⟩;obtain ⟨u,hu⟩:=hv0;have co:=hI3.box.cell 0 (v:=u) (by rw [List.getElem?_toArray];exact hu);have fo:=hI3.box.frozen 0;have kz:=((kwo.trans (kwi.mono hsO)).trans (q5.mono (by omega))).setCell (p:=⟨Ob,0,none⟩) (by show w.heap.size≤Ob;omega) (.slice va 2 vc);have HKZ:Hid _:=kz;clear C hO hI2 hI3 hI4 kz hRv hrow hcg hu;go_wp2
       go_roundw
       case rel=>exact ⟨1,_,rfl,by omega,HI4.out,HKZ.out⟩
       case measure=>first | decide | (simp [intOf];done) | (simp [intOf];omega)
    | 1,_=>
     try simp only [show ((1:Nat):Int)=1 from rfl]
     go_wp2_with fail
     go_loopw [12,37] (fun tv kv wi=>∃ k:Nat,kv=.int .i64 k∧k≤2∧((k+1≤1∧tv=.slice none 0 0∧wi=wo)∨(1<k+1∧∃ g c,tv=.slice (some ⟨g,0,none⟩) 1 c∧1≤c∧c≤9223372036854775807∧wi.cell? ⟨g,0,none⟩=some (.slice ba 2 ca)∧Below wo.heap.size wo wi))) (fun _ kv _=>2 - (intOf kv).toNat)
     case atStart=>exact ⟨0,rfl,Nat.zero_le _,Or.inl ⟨by omega,rfl,rfl⟩⟩
     case round=>
      obtain ⟨k,rfl,hkl,hst⟩:=hrel
      match k,hkl with
      | 0,_=>
       obtain ⟨_,rfl,hw⟩ | ⟨h,_⟩:=hst
       rotate_left
       · omega
       obtain rfl:=hw.symm;have E0':=(kwo.cell (p:=⟨ga,oa,none⟩) hgl).trans hx0;have E1':=(kwo.cell (p:=⟨ga,oa+1,none⟩) hgl).trans hx1
       go_wp2_with (at_builtin;refine wpList_append_own _ rfl _ _ 120 rfl wo.heap.size 23 i0 (.slice none 0 0) 1 24 Tryz.underlying120 hi hz0 hz1 hz2 rfl (by decide) _ 0 [] rfl (World.ownsRow_nil _ _ _ _) ⟨wo.heap.size,0,none⟩ 1 1 [.slice ba 2 ca] rfl rfl (cells_new wo #[.slice ba 2 ca] _) (by intro u hu;simp at hu;subst hu;rfl) (by decide) (by decide) (by simp) ?_)
       intro v' wi hown hgr _;have kwi:Below wo.heap.size wo wi:=(below_alloc wo (.cells #[.slice ba 2 ca] 23)).grown hgr (by simp) (fun k e=>by cases e);obtain ⟨_,⟨_,h⟩ | ⟨g,cap,cur,rfl,hg,hh,h2,h3,_⟩⟩:=id hown
       · cases h
       have hcg:=hown.cellAt 0 (by decide);have HCG:Hid (wi.cell? ⟨g,0,none⟩=some (.slice ba 2 ca)):=hcg;have hcap:1≤cap∧cap≤9223372036854775807:=⟨by omega,by unfold maxLen at h3;omega⟩;clear hown hgr hcg hh h2 h3;go_wp2
       go_roundw
       case rel=>exact ⟨1,rfl,by omega,Or.inr ⟨by omega,g,cap,rfl,hcap.1,hcap.2,HCG.out,kwi⟩⟩
       case measure=>first | decide | (simp [intOf];done) | (simp [intOf];omega)
      | 1,_=>
       obtain ⟨h,_⟩ | ⟨_,g,c,rfl,hc1,hc2,hcg,kwi⟩:=hst
       · omega
       have swi:=kwi.size;have E0':=(kwi.cell (p:=⟨ga,oa,none⟩) (by show ga<wo.heap.size;omega)).trans ((kwo.cell (p:=⟨ga,oa,none⟩) hgl).trans hx0);have E1':=(kwi.cell (p:=⟨ga,oa+1,none⟩) (by show ga<wo.heap.size;omega)).trans ((kwo.cell (p:=⟨ga,oa+1,none⟩) hgl).trans hx1);go_wp2
       go_roundw
       case rel=>exact ⟨2,rfl,by omega,Or.inr ⟨by omega,g,c,rfl,hc1,hc2,hcg,kwi⟩⟩
       case measure=>first | decide | (simp [intOf];done) | (simp [intOf];omega)
      | 2,_=>
       obtain ⟨h,_⟩ | ⟨_,g,c,rfl,hc1,hc2,hcg,kwi⟩:=hst
       · omega
       have swi:=kwi.size;have hrow:RdN (fun q=>v.heap.size≤q∧q<W1.heap.size∧q≠Ob) wr (.slice ba 2 ca) [0,2]:=HQ0.out.2.imp (fun _ h=>h) (fun q hq=>by rw [kwi.block q (by have:=hq.2.1;omega)];exact HI.out.old q hq.2.1 hq.2.2);have C:=diagonal_one (c:=c) hcg ⟨hc1,hc2⟩ hrow (by decide) (by decide);have hI2:=HI.out.below kwi
       go_wp2_with fail
       refine C.mono ?_;rintro e w5 ⟨vv,rfl,hO,q5⟩;obtain ⟨va,vc,hvf⟩:=owZ_form hO.out;subst hvf;have hI3:=hI2.below q5;have s5:=q5.size;have hRv:=(OwZ.rd hO.out (fun x hx=>by simp at hx;omega)).imp (D':=fun q=>W1.heap.size≤q∧q<w5.heap.size) (fun q hq=>⟨by have:=hq.1;omega,hq.2⟩) (fun _ _=>rfl);have hI4:=hI3.set (i:=1) (by omega) (by decide) (by rfl) hRv;have HI4:Hid _:=hI4;have hv0:∃ u,vs[1]? = some u:=⟨_,List.getElem?_eq_getElem (by have:=hI3.len;omega)⟩;obtain ⟨u,hu⟩:=hv0;have co:=hI3.box.cell 1 (v:=u) (by rw [List.getElem?_toArray];exact hu);have fo:=hI3.box.frozen 1;have kz:=((kwo.trans (kwi.mono hsO)).trans (q5.mono (by omega))).setCell (p:=⟨Ob,1,none⟩) (by show w.heap.size≤Ob;omega) (.slice va 2 vc);have HKZ:Hid _:=kz;clear C hO hI2 hI3 hI4 kz hRv hrow hcg hu;go_wp2
       go_roundw
       case rel=>exact ⟨2,_,rfl,by omega,HI4.out,HKZ.out⟩
       case measure=>first | decide | (simp [intOf];done) | (simp [intOf];omega)
    | 2,_=>
     try simp only [show ((2:Nat):Int)=2 from rfl]
     have hR6:=HI.out.rows w.heap.size (by omega) lOb;have X6:BoxA wo w.heap.size 25 #[.slice x1 2 y1,.slice x2 4 y2]:=by unfold BoxA;rw [HI.out.old w.heap.size (by omega) (by omega)];exact X2
     have R6:BoxA wo (w.heap.size+1) 25 #[.slice none 0 0,.slice none 0 0]:=by unfold BoxA;rw [HI.out.old (w.heap.size+1) (by omega) (by omega)];exact R2
     have z0:=X6.cell 0 rfl;have z1:=X6.cell 1 rfl;have C3:=count6_any (w:=wo) (sh:=[2,2]) (x1:=x1) (y1:=y1) (x2:=x2) (n2:=4) (y2:=y2) (HA.out.1.imp (fun _ h=>h) (Agree.of kwo HD.out)) (fun g hg=>by have:=HD.out g hg;omega);have hsz:sizeF [2,2]=(4,0):=by decide
     rw [hsz] at C3;simp only [] at C3
     go_wp2_with fail
     refine C3.mono ?_;rintro e w7 ⟨rfl,q7⟩;have s7:=q7.size;have X7:=X6.below q7 (by omega);have R7:=R6.below q7 (by omega);have kw7:=kwo.trans (q7.mono (by omega));clear C3 z0 z1;have z0:=X7.cell 0 rfl;have z1:=X7.cell 1 rfl;have hwF:walkF [[0,1],[0,2]]=[0,2,1,3]:=by decide
     have hsel:selP (arrT [2,2] its) [0,2,1,3]=[its.getD 0 tr0,its.getD 2 tr0,its.getD 1 tr0,its.getD 3 tr0]:=rfl;have hlF:lenF [[0,1],[0,2]]=[2,2]:=by decide
     have hin4:∀ j,j<4→∀ M,measI M (its.getD j tr0)=some (0,0):=fun j hj M=>HS.out _ (by rw [List.getD_eq_getElem?_getD,List.getElem?_eq_getElem (by rw [HL.out];exact hj)];exact List.getElem_mem _) M;have hml:∀ s∈[its.getD 0 tr0,its.getD 2 tr0,its.getD 1 tr0,its.getD 3 tr0],∀ M,measI M s=some (0,0):=fun s hs M=>by
      simp only [List.mem_cons,List.not_mem_nil,or_false] at hs;rcases hs with rfl | rfl | rfl | rfl
      · exact hin4 0 (by omega) M
      · exact hin4 2 (by omega) M
      · exact hin4 1 (by omega) M
      · exact hin4 3 (by omega) M
     have hms:msOf [its.getD 0 tr0,its.getD 2 tr0,its.getD 1 tr0,its.getD 3 tr0]=[(0,0),(0,0),(0,0),(0,0)]:=by
      unfold msOf;simp only [List.map_cons,List.map_nil];rw [hin4 0 (by omega),hin4 2 (by omega),hin4 1 (by omega),hin4 3 (by omega)];rfl
     have hmr:(measF 16 (arrT [2,2] its)).isSome=true:=by
      rw [meas_simple (L:=15) (t:=arrT [2,2] its) (by show (sizeF [2,2]).2=0;decide) (by show (its.length:Int)=max (sizeF [2,2]).1 1;rw [HL.out,hsz];decide) (by show 0<2;omega) (fun x hx=>HS.out x hx _)];rfl
     have CS:=selected_ok (f:=f) (N:=4) (D:=fun g=>D g∨(w.heap.size≤g∧g<w7.heap.size)) (w:=w7) (t:=arrT [2,2] its) (ss:=[[0,1],[0,2]]) (x1:=x1) (x2:=x2) (y1:=y1) (y2:=y2) (b:=some ⟨Ob,0,none⟩) (c:=2) (fun g hg=>by
      rcases hg with hg | hg
      · have:=HD.out g hg
        have:=kw7.size;omega
      · exact hg.2) (by
        have h:=ArV.imp (D':=fun g=>D g∨(w.heap.size≤g∧g<w7.heap.size)) (fun g hg=>Or.inl hg) (Agree.of kw7 HD.out) (f+1) (f+1) _ _ (arrT [2,2] its) (Nat.le_refl _) HA.out;show ArV _ _ _ (.slice x1 2 y1) (.slice x2 its.length y2) _;rw [HL.out];exact h) hmr (hR6.imp (fun g hg=>Or.inr ⟨hg.1,by have:=hg.2;omega⟩) (fun g hg=>q7.block g hg.2)) ⟨by decide,by decide⟩ (by decide) (by rw [hlF,hsz]) (by rw [hlF,hsz];rfl) (by omega) (by rw [hwF];rfl) (by rw [hwF];show ∀ p∈[0,2,1,3],p<((its.length:Nat):Int);rw [HL.out];decide) (by rw [hwF,hsel];intro s hs;rw [hml s hs];rfl) (by rw [hwF,hsel,hms];decide) (by rw [hwF,hsel,hms];decide)
     rw [hwF,hsel,hlF] at CS;have hkl:(arrT [2,2] its).kids.length=4:=HL.out;rw [hkl] at CS;have CS2:Calls Tryz.prog 100 #[.agg #[.slice x1 2 y1,.slice x2 4 y2],.slice (some ⟨Ob,0,none⟩) 2 2] w7 fun e w'=>∃ z1 u1 z2 u2,e=.returned (.tuple #[.agg #[.slice z1 2 u1,.slice z2 4 u2],.int .i64 0])∧ArV (f+1) (Fr w7.heap.size w'.heap.size) w' (.slice z1 2 u1) (.slice z2 4 u2) (arrT [2,2] [its.getD 0 tr0,its.getD 2 tr0,its.getD 1 tr0,its.getD 3 tr0])∧Below w7.heap.size w7 w':=CS;clear CS hkl hwF hsel hlF hin4 hml hms hmr hR6 hsz
     go_wp2_with fail
     refine CS2.mono ?_;rintro e w8 ⟨p1,u1,p2,u2,rfl,hv,k8⟩;have HV:Hid (ArV (f+1) (Fr w7.heap.size w8.heap.size) w8 (.slice p1 2 u1) (.slice p2 4 u2) (arrT [2,2] [its.getD 0 tr0,its.getD 2 tr0,its.getD 1 tr0,its.getD 3 tr0])):=hv;have s8:=k8.size;have R8:=R7.below k8 (by omega);have kz:=kw7.trans (k8.mono (by omega));clear CS2 hv z0 z1;have r0:=R8.cell 0 rfl;have r1:=R8.cell 1 rfl;have f0:=R8.frozen 0;have f1:=R8.frozen 1;have Rd:=R8.set2 (.slice p1 2 u1) (.slice p2 4 u2);have w0':=Rd.cell 0 rfl;have w1':=Rd.cell 1 rfl;go_wp2
     try simp only [Exit.inBlock,Exit.then]
     refine bodyPost_ret (v:=.tuple #[.agg #[.slice p1 2 u1,.slice p2 4 u2],.int .i64 0]) ?_ rfl ?_
     · simp [results,Tryz.results111,go_sem,w0',w1']
     refine ⟨p1,u1,p2,u2,rfl,?_,(kz.setCell (p:=⟨w.heap.size+1,0,none⟩) (by show w.heap.size≤w.heap.size+1;omega) _).setCell (p:=⟨w.heap.size+1,1,none⟩) (by show w.heap.size≤w.heap.size+1;omega) _⟩;refine ArV.imp ?_ ?_ (f+1) (f+1) _ _ _ (Nat.le_refl _) HV.out
     · rintro g' ⟨h1,h2⟩
       exact ⟨by omega,by simp [World.setCell];exact h2⟩
     · rintro g' ⟨h1,h2⟩
       have hne:¬ w.heap.size+1=g':=by omega
       simp [World.setCell,Array.getElem?_modify,hne]
end Go.Proofs.YtheaeggecpfcbaaGreat
