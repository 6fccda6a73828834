/- shape.transposed of two by two, shape.Monadic at it; shape.IsDyadic. -/
import Derived.Test.YtheaeggecpfcbaaGreatHD
import Derived.Test.YtheaeggecpfcbaaGreatHA
set_option maxRecDepth 100000
set_option maxHeartbeats 1600000
set_option linter.unusedVariables false
set_option linter.unusedSimpArgs false
namespace Go.Proofs.YtheaeggecpfcbaaGreat
open Go.RowKit
theorem zero_monad6 (w:World):(zeroValue 96).run Tryz.prog w=.ok .nilFunc w:=by kernel_rfl
theorem eq_nil6m (fn:Fn) (x y:Array Value) (w:World):(binOp BinOp.eql 96 (.func fn x y) .nilFunc).run Tryz.prog w=.ok (.bool false) w:=by kernel_rfl
theorem ne_nil6 (fn:Fn) (x y:Array Value) (w:World):(binOp BinOp.neq 76 (.func fn x y) .nilFunc).run Tryz.prog w=.ok (.bool true) w:=by kernel_rfl
section
variable {D:Nat→Prop} {f:Nat} {w:World} {x1 x2:Option Addr} {y1 y2:Nat} {its:List Tr}
theorem trans_22 (hD:∀ g,D g→g<w.heap.size) (hA:ArV (f+1) D w (.slice x1 2 y1) (.slice x2 4 y2) (arrT [2,2] its)) (hl:its.length=4) (hs:∀ t∈its,∀ M,measI M t=some (0,0)) :
    Calls Tryz.prog 84 #[.agg #[.slice x1 2 y1,.slice x2 4 y2]] w fun e w'=>∃ z1 u1 z2 u2,e=.returned (.tuple #[.agg #[.slice z1 2 u1,.slice z2 4 u2],.int .i64 0])∧ArV (f+1) (Fr w.heap.size w'.heap.size) w' (.slice z1 2 u1) (.slice z2 4 u2) (arrT [2,2] [its.getD 0 tr0,its.getD 2 tr0,its.getD 1 tr0,its.getD 3 tr0])∧Below w.heap.size w w':=by
 have HD:Hid (∀ g,D g→g<w.heap.size):=hD;have HA:Hid (ArV (f+1) D w (.slice x1 2 y1) (.slice x2 4 y2) (arrT [2,2] its)):=hA;have HL:Hid (its.length=4):=hl;have HS:Hid (∀ t∈its,∀ M,measI M t=some (0,0)):=hs;have k0:=below_alloc w (.cells #[.slice x1 2 y1,.slice x2 4 y2] 25);have X0:=boxA_new w #[.slice x1 2 y1,.slice x2 4 y2] 25;have k1:=below_alloc (w.alloc (.cells #[.slice x1 2 y1,.slice x2 4 y2] 25)) (.cells #[.slice none 0 0,.slice none 0 0] 25);have R0:=boxA_new (w.alloc (.cells #[.slice x1 2 y1,.slice x2 4 y2] 25)) #[.slice none 0 0,.slice none 0 0] 25;have X1:=X0.below k1 (by simp);have kv:Below w.heap.size w _:=k0.trans (k1.mono (by simp));have sv:((w.alloc (.cells #[.slice x1 2 y1,.slice x2 4 y2] 25)).alloc (.cells #[.slice none 0 0,.slice none 0 0] 25)).heap.size=w.heap.size+1+1:=by simp
 rw [World.size_alloc] at R0;obtain ⟨v,hv⟩:∃ v,(w.alloc (.cells #[.slice x1 2 y1,.slice x2 4 y2] 25)).alloc (.cells #[.slice none 0 0,.slice none 0 0] 25)=v:=⟨_,rfl⟩;rw [hv] at R0 X1 kv sv;have hmk:(Instr.makeSlice 23 (.int .i64 2) (.int .i64 2)).run Tryz.prog v=.ok (.slice (some ⟨v.heap.size,0,none⟩) 2 2) (v.alloc (.cells (Array.replicate 2 (Value.int .i64 0)) 3)):=make_ints 2 (by omega) v;have kz:=below_alloc v (.cells (Array.replicate 2 (Value.int .i64 0)) 3);have Bz:BoxA (v.alloc (.cells (Array.replicate 2 (Value.int .i64 0)) 3)) v.heap.size 3 #[.int .i64 0,.int .i64 0]:=boxA_new v (Array.replicate 2 (Value.int .i64 0)) 3;have z0:=X1.cell 0 rfl;have sz:(v.alloc (.cells (Array.replicate 2 (Value.int .i64 0)) 3)).heap.size=v.heap.size+1:=by simp
 have kwz:=kv.trans (kz.mono (by omega));have X2:=X1.below kz (by omega);have R2:=R0.below kz (by omega);rw [sv] at hmk Bz sz;clear hD hA hl hs k0 k1 X0 kz X1 R0;go_enter Tryz.func84,Tryz.ntmps84
 go_wp2_with fail
 generalize hAA:v.alloc (.cells (Array.replicate 2 (Value.int .i64 0)) 3)=u at *;clear hAA hmk
 go_loopw [12] (fun iv wr=>∃ i:Nat,iv=.int .i64 i∧i≤2∧BoxA wr (w.heap.size+1+1) 3 #[.int .i64 (if 1≤i then 1 else 0),.int .i64 0]∧Below (w.heap.size+1+1) u wr) (fun iv _=>2 - (intOf iv).toNat)
 case atStart=>exact ⟨0,rfl,Nat.zero_le _,Bz,Below.refl _ _⟩
 case round=>
  obtain ⟨i,rfl,hil,hB,hk⟩:=hrel;have hks:=hk.size
  match i,hil with
  | 0,_=>
   have c0:=hB.cell 0 rfl;have f0:=hB.frozen 0;have HB:Hid (BoxA (wr.setCell ⟨w.heap.size+1+1,0,none⟩ (.int .i64 1)) (w.heap.size+1+1) 3 #[.int .i64 1,.int .i64 0]):=by have h:=hB.putZ 0 (.int .i64 1);unfold Hid;simpa using h
   have HK:Hid (Below (w.heap.size+1+1) u (wr.setCell ⟨w.heap.size+1+1,0,none⟩ (.int .i64 1))):=hk.setCell (p:=⟨w.heap.size+1+1,0,none⟩) (Nat.le_refl _) _;clear hB hk;go_wp2
   go_roundw
   case rel=>exact ⟨1,rfl,by omega,HB.out,HK.out⟩
   case measure=>first | decide | (simp [intOf];done) | (simp [intOf];omega)
  | 1,_=>
   have c0:=hB.cell 1 rfl;have f0:=hB.frozen 1;have HB:Hid (BoxA (wr.setCell ⟨w.heap.size+1+1,1,none⟩ (.int .i64 0)) (w.heap.size+1+1) 3 #[.int .i64 1,.int .i64 0]):=by have h:=hB.putZ 1 (.int .i64 0);unfold Hid;simpa using h
   have HK:Hid (Below (w.heap.size+1+1) u (wr.setCell ⟨w.heap.size+1+1,1,none⟩ (.int .i64 0))):=hk.setCell (p:=⟨w.heap.size+1+1,1,none⟩) (Nat.le_refl _) _;clear hB hk;go_wp2
   go_roundw
   case rel=>exact ⟨2,rfl,by omega,HB.out,HK.out⟩
   case measure=>first | decide | (simp [intOf];done) | (simp [intOf];omega)
  | 2,_=>
   have kwr:=kwz.trans (hk.mono (by omega));have X3:=X2.below hk (by omega);have R3:=R2.below hk (by omega);have lB:=hB.lt;have hX:RdN (fun g=>D g∨g=w.heap.size+1+1) wr (.slice (some ⟨w.heap.size+1+1,0,none⟩) 2 2) [1,0]:=rdN_box (xs:=[1,0]) hB (Or.inr rfl) (fun x hx=>by simp at hx;omega) (by decide);have CL:=laid_22 (w:=wr) (D:=fun g=>D g∨g=w.heap.size+1+1) (f:=f) (its:=its) (x1:=x1) (x2:=x2) (y1:=y1) (y2:=y2) (fun g hg=>by
    rcases hg with hg | hg
    · have:=HD.out g hg
      omega
    · omega) (ArV.imp (fun g hg=>Or.inl hg) (Agree.of kwr HD.out) (f+1) (f+1) _ _ _ (Nat.le_refl _) HA.out) HL.out HS.out hX
   have z0:=X3.cell 0 rfl;have z1:=X3.cell 1 rfl;clear hX
   go_wp2_with fail
   refine CL.mono ?_;rintro e w8 ⟨p1,u1,p2,u2,rfl,hv,k8⟩;have HV:Hid (ArV (f+1) (Fr wr.heap.size w8.heap.size) w8 (.slice p1 2 u1) (.slice p2 4 u2) (arrT [2,2] [its.getD 0 tr0,its.getD 2 tr0,its.getD 1 tr0,its.getD 3 tr0])):=hv;have s8:=k8.size;have R8:=R3.below k8 (by omega);have kz:=kwr.trans (k8.mono (by omega));clear CL hv z0 z1;have r0:=R8.cell 0 rfl;have r1:=R8.cell 1 rfl;have f0:=R8.frozen 0;have f1:=R8.frozen 1;have Rd:=R8.set2 (.slice p1 2 u1) (.slice p2 4 u2);have w0':=Rd.cell 0 rfl;have w1':=Rd.cell 1 rfl;go_wp2
   try simp only [Exit.inBlock,Exit.then]
   refine bodyPost_ret (v:=.tuple #[.agg #[.slice p1 2 u1,.slice p2 4 u2],.int .i64 0]) ?_ rfl ?_
   · simp [results,Tryz.results84,go_sem,w0',w1']
   refine ⟨p1,u1,p2,u2,rfl,?_,(kz.setCell (p:=⟨w.heap.size+1,0,none⟩) (by show w.heap.size≤w.heap.size+1;omega) _).setCell (p:=⟨w.heap.size+1,1,none⟩) (by show w.heap.size≤w.heap.size+1;omega) _⟩;refine ArV.imp ?_ ?_ (f+1) (f+1) _ _ _ (Nat.le_refl _) HV.out
   · rintro g' ⟨h1,h2⟩
     exact ⟨by omega,by simp [World.setCell];exact h2⟩
   · rintro g' ⟨h1,h2⟩
     have hne:¬ w.heap.size+1=g':=by omega
     simp [World.setCell,Array.getElem?_modify,hne]
/-- Is it a function of two arrays? '⍪' is. -/
theorem isDyadic_join (w:World):Calls Tryz.prog 28 #[.int .i32 9066] w fun e w'=>e=.returned (.bool true)∧Below w.heap.size w w':=by
 have C1:=shOfTwo_any 0 w;have hnf:=ne_nil6;go_enter Tryz.func28,Tryz.ntmps28
 go_wp2_with fail
 refine C1.mono ?_;rintro e w1 ⟨rfl,hT,q1⟩;have hget:(Instr.lookup 77 (.map (some (w.heap.size+1))) (.int .i32 9066) false).run Tryz.prog w1=.ok (.func (.func 57) #[] #[]) w1:=MapIs.get (k:=9066) Tryz.underlying77 Tryz.underlying21 (zero_dyad6 w1) hT.tab;clear C1 hT;go_wp2
 go_ret
 exact ⟨rfl,q1⟩
end
section
variable {D:Nat→Prop} {f:Nat} {w:World} {x1 x2:Option Addr} {y1 y2:Nat} {its:List Tr}
theorem monadic_22 (hD:∀ g,D g→g<w.heap.size) (hA:ArV (f+1) D w (.slice x1 2 y1) (.slice x2 4 y2) (arrT [2,2] its)) (hl:its.length=4) (hs:∀ t∈its,∀ M,measI M t=some (0,0)) :
    Calls Tryz.prog 26 #[.agg #[.int .i64 1,.bool false,.slice none 0 0,.slice none 0 0,.int .i64 0],.int .i32 9033,.agg #[.slice x1 2 y1,.slice x2 4 y2]] w fun e w'=>∃ z1 u1 z2 u2,e=.returned (.tuple #[.agg #[.slice z1 2 u1,.slice z2 4 u2],.int .i64 0])∧ArV (f+1) (Fr w.heap.size w'.heap.size) w' (.slice z1 2 u1) (.slice z2 4 u2) (arrT [2,2] [its.getD 0 tr0,its.getD 2 tr0,its.getD 1 tr0,its.getD 3 tr0])∧Below w.heap.size w w':=by
 have HD:Hid (∀ g,D g→g<w.heap.size):=hD;have HA:Hid (ArV (f+1) D w (.slice x1 2 y1) (.slice x2 4 y2) (arrT [2,2] its)):=hA;have HL:Hid (its.length=4):=hl;have HS:Hid (∀ t∈its,∀ M,measI M t=some (0,0)):=hs;have hsz:sizeF [2,2]=(4,0):=by decide
 have HM:Hid ((measF 16 (arrT [2,2] its)).isSome=true):=by
  unfold Hid;rw [meas_simple (L:=15) (t:=arrT [2,2] its) (by show (sizeF [2,2]).2=0;decide) (by show (its.length:Int)=max (sizeF [2,2]).1 1;rw [hl,hsz];decide) (by show 0<2;omega) (fun x hx=>hs x hx _)];rfl
 have kE:=below_alloc w (.cells #[.int .i64 1,.bool false,.slice none 0 0,.slice none 0 0,.int .i64 0] 36);have E0:=boxA_new w #[.int .i64 1,.bool false,.slice none 0 0,.slice none 0 0,.int .i64 0] 36;obtain ⟨va,hva⟩:∃ va,w.alloc (.cells #[.int .i64 1,.bool false,.slice none 0 0,.slice none 0 0,.int .i64 0] 36)=va:=⟨_,rfl⟩;have sa:va.heap.size=w.heap.size+1:=by rw [← hva,World.size_alloc]
 rw [hva] at kE E0;have kX:=below_alloc va (.cells #[.slice x1 2 y1,.slice x2 4 y2] 25);have X0:=boxA_new va #[.slice x1 2 y1,.slice x2 4 y2] 25;obtain ⟨vc,hvc⟩:∃ vc,va.alloc (.cells #[.slice x1 2 y1,.slice x2 4 y2] 25)=vc:=⟨_,rfl⟩;have sc:vc.heap.size=w.heap.size+1+1:=by rw [← hvc,World.size_alloc,sa]
 rw [hvc] at kX X0;have kR:=below_alloc vc (.cells #[.slice none 0 0,.slice none 0 0] 25);have R0:=boxA_new vc #[.slice none 0 0,.slice none 0 0] 25;obtain ⟨v,hv⟩:∃ v,vc.alloc (.cells #[.slice none 0 0,.slice none 0 0] 25)=v:=⟨_,rfl⟩;have sv:v.heap.size=w.heap.size+1+1+1:=by rw [← hv,World.size_alloc,sc]
 rw [hv] at kR R0;rw [sa] at X0;rw [sc] at R0;have E1:=(E0.below kX (by omega)).below kR (by omega);have X1:=X0.below kR (by omega);have kv:Below w.heap.size w v:=(kE.trans (kX.mono (by omega))).trans (kR.mono (by omega));clear hD hA hl hs kE kX kR E0 X0 hsz;have C1:=shOfOne_any v;have hnf:=eq_nil6m;go_enter Tryz.func26,Tryz.ntmps26
 go_wp2_with fail
 refine C1.mono ?_;rintro e w1 ⟨rfl,hT,q1⟩;have hget:(Instr.lookup 97 (.map (some v.heap.size)) (.int .i32 9033) false).run Tryz.prog w1=.ok (.func (.func 84) #[] #[]) w1:=MapIs.get (k:=9033) Tryz.underlying97 Tryz.underlying21 (zero_monad6 w1) hT;rw [sv] at hget;have s1:=q1.size;have E2:=E1.below q1 (by omega);have X2:=X1.below q1 (by omega);have R2:=R0.below q1 (by omega);have kw1:=kv.trans (q1.mono (by omega));have kl:=below_alloc w1 (.cells #[.slice x1 2 y1,.slice x2 4 y2] 25);have BL:=boxA_new w1 #[.slice x1 2 y1,.slice x2 4 y2] 25;have sl:(w1.alloc (.cells #[.slice x1 2 y1,.slice x2 4 y2] 25)).heap.size=w1.heap.size+1:=by simp
 have kw2:=kw1.trans (kl.mono (by omega));have CR:=refused_ok (w:=w1.alloc (.cells #[.slice x1 2 y1,.slice x2 4 y2] 25)) (D:=fun g=>D g∨g=w1.heap.size) (f:=f+1) (ts:=[arrT [2,2] its]) (a:=some ⟨w1.heap.size,0,none⟩) (c:=1) (eb:=false) (e1:=none) (e2:=none) (m1:=0) (k1:=0) (m2:=0) (k2:=0) (pp:=0) (fun g hg=>by
  rcases hg with hg | hg
  · have:=HD.out g hg
    omega
  · omega) (fun u hu=>by
  simp at hu;subst hu;exact HM.out) ⟨_,_,rfl,by simp,by omega,(fun h=>by cases h),Or.inr ⟨w1.heap.size,0,rfl,Or.inr rfl,fun j hj=>by
  match j,hj with
  | 0,_=>exact ⟨_,_,_,_,_,_,BL.cell 0 rfl,BL.cell 1 rfl,ArV.imp (fun g hg=>Or.inl hg) (Agree.of kw2 HD.out) (f+1) (f+1) _ _ _ (Nat.le_refl _) HA.out⟩⟩⟩
 have p0:=E2.cell 0 rfl;have p1:=E2.cell 1 rfl;have p2:=E2.cell 2 rfl;have p3:=E2.cell 3 rfl;have p4:=E2.cell 4 rfl;have o0:=X2.cell 0 rfl;have o1:=X2.cell 1 rfl;clear C1 E1 X1 R0 hT
 go_wp2_with fail
 refine CR.mono ?_;rintro e w3 ⟨rfl,q3⟩;have s3:=q3.size;have X3:=(X2.below kl (by omega)).below q3 (by omega);have R3:=(R2.below kl (by omega)).below q3 (by omega);have kw3:=kw2.trans (q3.mono (by omega));clear CR p0 p1 p2 p3 p4 o0 o1 E2 X2 hget;have o0:=X3.cell 0 rfl;have o1:=X3.cell 1 rfl;have CP:=trans_22 (w:=w3) (fun g hg=>by have:=HD.out g hg;omega) (HA.out.agree (Agree.of kw3 HD.out)) HL.out HS.out
 go_wp2_with fail
 refine CP.mono ?_;rintro e w7 ⟨p1,u1,p2,u2,rfl,hv,k7⟩;have HV:Hid (ArV (f+1) (Fr w3.heap.size w7.heap.size) w7 (.slice p1 2 u1) (.slice p2 4 u2) (arrT [2,2] [its.getD 0 tr0,its.getD 2 tr0,its.getD 1 tr0,its.getD 3 tr0])):=hv;have s7:=k7.size;have R7:=R3.below k7 (by omega);have kz:=kw3.trans (k7.mono (by omega));clear CP hv o0 o1;have r0:=R7.cell 0 rfl;have r1:=R7.cell 1 rfl;have f0:=R7.frozen 0;have f1:=R7.frozen 1;have Rd:=R7.set2 (.slice p1 2 u1) (.slice p2 4 u2);have w0':=Rd.cell 0 rfl;have w1':=Rd.cell 1 rfl;go_wp2
 try simp only [Exit.inBlock,Exit.then]
 refine bodyPost_ret (v:=.tuple #[.agg #[.slice p1 2 u1,.slice p2 4 u2],.int .i64 0]) ?_ rfl ?_
 · simp [results,Tryz.results26,go_sem,w0',w1']
 refine ⟨p1,u1,p2,u2,rfl,?_,(kz.setCell (p:=⟨w.heap.size+1+1,0,none⟩) (by show w.heap.size≤w.heap.size+1+1;omega) _).setCell (p:=⟨w.heap.size+1+1,1,none⟩) (by show w.heap.size≤w.heap.size+1+1;omega) _⟩;refine ArV.imp ?_ ?_ (f+1) (f+1) _ _ _ (Nat.le_refl _) HV.out
 · rintro g' ⟨h1,h2⟩
   exact ⟨by omega,by simp [World.setCell];exact h2⟩
 · rintro g' ⟨h1,h2⟩
   have hne:¬ w.heap.size+1+1=g':=by omega
   simp [World.setCell,Array.getElem?_modify,hne]
end
end Go.Proofs.YtheaeggecpfcbaaGreat
