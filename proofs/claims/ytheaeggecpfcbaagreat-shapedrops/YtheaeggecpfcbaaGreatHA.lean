/- shape.ofTwo: the functions of two arrays, by their glyphs. -/
import Derived.Test.YtheaeggecpfcbaaGreatKS1
import Derived.Test.YtheaeggecpfcbaaGreatK7
import Derived.Test.YtheaeggecpfcbaaGreatH9
import Derived.Test.YtheaeggecpfcbaaGreatK12
import Derived.Test.YtheaeggecpfcbaaGreatKD
set_option maxRecDepth 100000
set_option maxHeartbeats 16000000
set_option linter.unusedVariables false
set_option linter.unusedSimpArgs false
namespace Go.Proofs.YtheaeggecpfcbaaGreat
open Go.RowKit
def onL (b:Nat):Value:=.func (.func 102) #[] #[.pointer (some ⟨b,0,none⟩)]
def onF (b:Nat):Value:=.func (.func 107) #[] #[.pointer (some ⟨b,0,none⟩)]
def shTab (b:Nat):List (Int×Value):=[(9076,.func (.func 53) #[] #[]),(44,.func (.func 54) #[] #[]),(9066,.func (.func 57) #[] #[]),(8593,.func (.func 58) #[] #[]),(8595,.func (.func 59) #[] #[]),(9021,onL (b+2)),(8854,onF (b+3)),(9033,.func (.func 63) #[] #[.pointer (some ⟨b,0,none⟩)]),(47,onL (b+4)),(9023,onF (b+5)),(92,onL (b+6)),(9024,onF (b+7))]
theorem last_makes (k:Nat) (w:World):Calls Tryz.prog 60 #[.func (.func k) #[] #[]] w fun e w'=>e=.returned (onL w.heap.size)∧w'=w.alloc (.cells #[.func (.func k) #[] #[]] 124):=by
 go_enter Tryz.func60,Tryz.ntmps60;go_wp2
 go_ret
 exact ⟨rfl,rfl⟩
theorem first_makes (k:Nat) (w:World):Calls Tryz.prog 62 #[.func (.func k) #[] #[]] w fun e w'=>e=.returned (onF w.heap.size)∧w'=w.alloc (.cells #[.func (.func k) #[] #[]] 124):=by
 go_enter Tryz.func62,Tryz.ntmps62;go_wp2
 go_ret
 exact ⟨rfl,rfl⟩
/-- What ofTwo leaves: the table in block b + 1, the origin in block b, what goes along an axis in the blocks behind. -/
structure ShTwoIs (b:Nat) (io:Int) (w':World):Prop where
 tab:MapIs w' (b+1) (shTab b)
 io:w'.cell? ⟨b,0,none⟩=some (.int .i64 io)
 c2:w'.cell? ⟨b+2,0,none⟩=some (.func (.func 61) #[] #[])
 c3:w'.cell? ⟨b+3,0,none⟩=some (.func (.func 61) #[] #[])
 c4:w'.cell? ⟨b+4,0,none⟩=some (.func (.func 65) #[] #[])
 c5:w'.cell? ⟨b+5,0,none⟩=some (.func (.func 65) #[] #[])
 c6:w'.cell? ⟨b+6,0,none⟩=some (.func (.func 66) #[] #[])
 c7:w'.cell? ⟨b+7,0,none⟩=some (.func (.func 66) #[] #[])
 size:w'.heap.size=b+8
theorem shOfTwo_any (io:Int) (w:World):Calls Tryz.prog 33 #[.int .i64 io] w fun e w'=>e=.returned (.map (some (w.heap.size+1)))∧ShTwoIs w.heap.size io w'∧Below w.heap.size w w':=by
 have k0:=below_alloc w (.cells #[.int .i64 io] 3);have X0:=boxA_new w #[.int .i64 io] 3;have hmm:=@run_makeMap Tryz.prog;have u0:=MapIs.new (w.alloc (.cells #[.int .i64 io] 3));have km:=below_alloc (w.alloc (.cells #[.int .i64 io] 3)) (.map #[] 0);have X:=X0.below km X0.lt;rw [World.size_alloc] at u0;have sv:((w.alloc (.cells #[.int .i64 io] 3)).alloc (.map #[] 0)).heap.size=w.heap.size+2:=by simp
 have kb:Below w.heap.size w ((w.alloc (.cells #[.int .i64 io] 3)).alloc (.map #[] 0)):=k0.trans (km.mono (by simp));have z0:=X.cell 0 rfl;go_enter Tryz.func33,Tryz.ntmps33;clear k0 km X0;generalize hV:(w.alloc (.cells #[.int .i64 io] 3)).alloc (.map #[] 0)=v0 at *;have p0:=Kp.refl (w.heap.size+1) v0;obtain ⟨v1,r1,u1,q1,t1⟩:=MapIs.put (P:=Tryz.prog) (mty:=77) (k:=9076) (v:=.func (.func 53) #[] #[]) Tryz.underlying77 Tryz.underlying21 u0 (by simp);have p1:=p0.trans q1;obtain ⟨v2,r2,u2,q2,t2⟩:=MapIs.put (P:=Tryz.prog) (mty:=77) (k:=44) (v:=.func (.func 54) #[] #[]) Tryz.underlying77 Tryz.underlying21 u1 (by simp);have p2:=p1.trans q2;obtain ⟨v3,r3,u3,q3,t3⟩:=MapIs.put (P:=Tryz.prog) (mty:=77) (k:=9066) (v:=.func (.func 57) #[] #[]) Tryz.underlying77 Tryz.underlying21 u2 (by simp);have p3:=p2.trans q3;obtain ⟨v4,r4,u4,q4,t4⟩:=MapIs.put (P:=Tryz.prog) (mty:=77) (k:=8593) (v:=.func (.func 58) #[] #[]) Tryz.underlying77 Tryz.underlying21 u3 (by simp);have p4:=p3.trans q4;obtain ⟨v5,r5,u5,q5,t5⟩:=MapIs.put (P:=Tryz.prog) (mty:=77) (k:=8595) (v:=.func (.func 59) #[] #[]) Tryz.underlying77 Tryz.underlying21 u4 (by simp);have p5:=p4.trans q5;simp only [List.nil_append,List.cons_append] at u5
 go_wp2_with fail
 have s6:v5.heap.size=w.heap.size+2:=by rw [t5,t4,t3,t2,t1];exact sv
 refine (last_makes 61 v5).mono ?_;rintro e x6 ⟨rfl,hx6⟩;rw [s6];have d6:=below_alloc v5 (.cells #[.func (.func 61) #[] #[]] 124);rw [← hx6] at d6;have sa6:x6.heap.size=w.heap.size+3:=by rw [hx6,World.size_alloc,s6]
 have y6:x6.cell? ⟨w.heap.size+2,0,none⟩=some (.func (.func 61) #[] #[]):=by
  have:=(boxA_new v5 #[.func (.func 61) #[] #[]] 124).cell 0 rfl;rw [hx6,← s6];exact this
 have ux6:=u5.of_below d6;have px6:=p5.trans (Kp.of_below d6);clear hx6;obtain ⟨v6,r6,u6,q6,t6⟩:=MapIs.put (P:=Tryz.prog) (mty:=77) (k:=9021) (v:=onL (w.heap.size+2)) Tryz.underlying77 Tryz.underlying21 ux6 (by simp);have p6:=px6.trans q6;simp only [List.nil_append,List.cons_append] at u6
 go_wp2_with fail
 have s7:v6.heap.size=w.heap.size+3:=by rw [t6];exact sa6
 refine (first_makes 61 v6).mono ?_;rintro e x7 ⟨rfl,hx7⟩;rw [s7];have d7:=below_alloc v6 (.cells #[.func (.func 61) #[] #[]] 124);rw [← hx7] at d7;have sa7:x7.heap.size=w.heap.size+4:=by rw [hx7,World.size_alloc,s7]
 have y7:x7.cell? ⟨w.heap.size+3,0,none⟩=some (.func (.func 61) #[] #[]):=by
  have:=(boxA_new v6 #[.func (.func 61) #[] #[]] 124).cell 0 rfl;rw [hx7,← s7];exact this
 have ux7:=u6.of_below d7;have px7:=p6.trans (Kp.of_below d7);clear hx7;obtain ⟨v7,r7,u7,q7,t7⟩:=MapIs.put (P:=Tryz.prog) (mty:=77) (k:=8854) (v:=onF (w.heap.size+3)) Tryz.underlying77 Tryz.underlying21 ux7 (by simp);have p7:=px7.trans q7;obtain ⟨v8,r8,u8,q8,t8⟩:=MapIs.put (P:=Tryz.prog) (mty:=77) (k:=9033) (v:=.func (.func 63) #[] #[.pointer (some ⟨w.heap.size,0,none⟩)]) Tryz.underlying77 Tryz.underlying21 u7 (by simp);have p8:=p7.trans q8;simp only [List.nil_append,List.cons_append] at u8
 go_wp2_with fail
 have s9:v8.heap.size=w.heap.size+4:=by rw [t8,t7];exact sa7
 refine (last_makes 65 v8).mono ?_;rintro e x9 ⟨rfl,hx9⟩;rw [s9];have d9:=below_alloc v8 (.cells #[.func (.func 65) #[] #[]] 124);rw [← hx9] at d9;have sa9:x9.heap.size=w.heap.size+5:=by rw [hx9,World.size_alloc,s9]
 have y9:x9.cell? ⟨w.heap.size+4,0,none⟩=some (.func (.func 65) #[] #[]):=by
  have:=(boxA_new v8 #[.func (.func 65) #[] #[]] 124).cell 0 rfl;rw [hx9,← s9];exact this
 have ux9:=u8.of_below d9;have px9:=p8.trans (Kp.of_below d9);clear hx9;obtain ⟨v9,r9,u9,q9,t9⟩:=MapIs.put (P:=Tryz.prog) (mty:=77) (k:=47) (v:=onL (w.heap.size+4)) Tryz.underlying77 Tryz.underlying21 ux9 (by simp);have p9:=px9.trans q9;simp only [List.nil_append,List.cons_append] at u9
 go_wp2_with fail
 have s10:v9.heap.size=w.heap.size+5:=by rw [t9];exact sa9
 refine (first_makes 65 v9).mono ?_;rintro e x10 ⟨rfl,hx10⟩;rw [s10];have d10:=below_alloc v9 (.cells #[.func (.func 65) #[] #[]] 124);rw [← hx10] at d10;have sa10:x10.heap.size=w.heap.size+6:=by rw [hx10,World.size_alloc,s10]
 have y10:x10.cell? ⟨w.heap.size+5,0,none⟩=some (.func (.func 65) #[] #[]):=by
  have:=(boxA_new v9 #[.func (.func 65) #[] #[]] 124).cell 0 rfl;rw [hx10,← s10];exact this
 have ux10:=u9.of_below d10;have px10:=p9.trans (Kp.of_below d10);clear hx10;obtain ⟨v10,r10,u10,q10,t10⟩:=MapIs.put (P:=Tryz.prog) (mty:=77) (k:=9023) (v:=onF (w.heap.size+5)) Tryz.underlying77 Tryz.underlying21 ux10 (by simp);have p10:=px10.trans q10;simp only [List.nil_append,List.cons_append] at u10
 go_wp2_with fail
 have s11:v10.heap.size=w.heap.size+6:=by rw [t10];exact sa10
 refine (last_makes 66 v10).mono ?_;rintro e x11 ⟨rfl,hx11⟩;rw [s11];have d11:=below_alloc v10 (.cells #[.func (.func 66) #[] #[]] 124);rw [← hx11] at d11;have sa11:x11.heap.size=w.heap.size+7:=by rw [hx11,World.size_alloc,s11]
 have y11:x11.cell? ⟨w.heap.size+6,0,none⟩=some (.func (.func 66) #[] #[]):=by
  have:=(boxA_new v10 #[.func (.func 66) #[] #[]] 124).cell 0 rfl;rw [hx11,← s11];exact this
 have ux11:=u10.of_below d11;have px11:=p10.trans (Kp.of_below d11);clear hx11;obtain ⟨v11,r11,u11,q11,t11⟩:=MapIs.put (P:=Tryz.prog) (mty:=77) (k:=92) (v:=onL (w.heap.size+6)) Tryz.underlying77 Tryz.underlying21 ux11 (by simp);have p11:=px11.trans q11;simp only [List.nil_append,List.cons_append] at u11
 go_wp2_with fail
 have s12:v11.heap.size=w.heap.size+7:=by rw [t11];exact sa11
 refine (first_makes 66 v11).mono ?_;rintro e x12 ⟨rfl,hx12⟩;rw [s12];have d12:=below_alloc v11 (.cells #[.func (.func 66) #[] #[]] 124);rw [← hx12] at d12;have sa12:x12.heap.size=w.heap.size+8:=by rw [hx12,World.size_alloc,s12]
 have y12:x12.cell? ⟨w.heap.size+7,0,none⟩=some (.func (.func 66) #[] #[]):=by
  have:=(boxA_new v11 #[.func (.func 66) #[] #[]] 124).cell 0 rfl;rw [hx12,← s12];exact this
 have ux12:=u11.of_below d12;have px12:=p11.trans (Kp.of_below d12);clear hx12;obtain ⟨v12,r12,u12,q12,t12⟩:=MapIs.put (P:=Tryz.prog) (mty:=77) (k:=9024) (v:=onF (w.heap.size+7)) Tryz.underlying77 Tryz.underlying21 ux12 (by simp);have p12:=px12.trans q12;simp only [List.nil_append,List.cons_append] at u12;go_wp2
 go_ret
 have sE:v12.heap.size=w.heap.size+8:=by rw [t12];exact sa12
 exact ⟨rfl,⟨u12,p12.cell (by omega) z0,(((((((((((q6.trans (Kp.of_below d7)).trans q7).trans q8).trans (Kp.of_below d9)).trans q9).trans (Kp.of_below d10)).trans q10).trans (Kp.of_below d11)).trans q11).trans (Kp.of_below d12)).trans q12).cell (by omega) y6,(((((((((q7.trans q8).trans (Kp.of_below d9)).trans q9).trans (Kp.of_below d10)).trans q10).trans (Kp.of_below d11)).trans q11).trans (Kp.of_below d12)).trans q12).cell (by omega) y7,((((((q9.trans (Kp.of_below d10)).trans q10).trans (Kp.of_below d11)).trans q11).trans (Kp.of_below d12)).trans q12).cell (by omega) y9,((((q10.trans (Kp.of_below d11)).trans q11).trans (Kp.of_below d12)).trans q12).cell (by omega) y10,((q11.trans (Kp.of_below d12)).trans q12).cell (by omega) y11,q12.cell (by omega) y12,sE⟩,kb.trans (p12.below (by omega) (by omega))⟩
theorem zero_dyad6 (w:World):(zeroValue 76).run Tryz.prog w=.ok .nilFunc w:=by kernel_rfl
theorem eq_nil6 (fn:Fn) (x y:Array Value) (w:World):(binOp BinOp.eql 76 (.func fn x y) .nilFunc).run Tryz.prog w=.ok (.bool false) w:=by kernel_rfl
section
variable {f:Nat} {D:Nat→Prop} {w:World} {x1 x2 a1 a2:Option Addr} {y1 y2 b1 b2:Nat} {t s:Tr} {n:Int}
end
theorem env6_any (w:World):Calls Tryz.prog 12 #[] w fun e w'=>e=.returned (.agg #[.int .i64 1,.bool false,.slice none 0 0,.slice none 0 0,.int .i64 0])∧Below w.heap.size w w':=by
 have k0:=below_alloc w (.cells #[.int .i64 0,.bool false,.slice none 0 0,.slice none 0 0,.int .i64 0] 36);have X0:=boxA_new w #[.int .i64 0,.bool false,.slice none 0 0,.slice none 0 0,.int .i64 0] 36;have hb:∀ w1,(Instr.build 36 #[(0,.int .i64 1)]).run Tryz.prog w1=.ok (.agg #[.int .i64 1,.bool false,.slice none 0 0,.slice none 0 0,.int .i64 0]) w1:=fun w1=>by kernel_rfl
 obtain ⟨v,hv⟩:∃ v,w.alloc (.cells #[.int .i64 0,.bool false,.slice none 0 0,.slice none 0 0,.int .i64 0] 36)=v:=⟨_,rfl⟩;rw [hv] at k0 X0;have f0:=X0.frozen 0;have f1:=X0.frozen 1;have f2:=X0.frozen 2;have f3:=X0.frozen 3;have f4:=X0.frozen 4;have c0:=X0.cell 0 rfl;have c1:=X0.cell 1 rfl;have c2:=X0.cell 2 rfl;have c3:=X0.cell 3 rfl;have c4:=X0.cell 4 rfl;have Y:=((((X0.putZ 0 (.int .i64 1)).putZ 1 (.bool false)).putZ 2 (.slice none 0 0)).putZ 3 (.slice none 0 0)).putZ 4 (.int .i64 0);have d0:=Y.cell 0 rfl;have d1:=Y.cell 1 rfl;have d2:=Y.cell 2 rfl;have d3:=Y.cell 3 rfl;have d4:=Y.cell 4 rfl;go_enter Tryz.func12,Tryz.ntmps12;go_wp2
 try simp only [Exit.inBlock,Exit.then]
 refine bodyPost_ret (v:=.agg #[.int .i64 1,.bool false,.slice none 0 0,.slice none 0 0,.int .i64 0]) (by simp [results,Tryz.results12,go_sem,d0,d1,d2,d3,d4]) rfl ?_;exact ⟨rfl,((((k0.setCell (p:=⟨w.heap.size,0,none⟩) (Nat.le_refl _) _).setCell (p:=⟨w.heap.size,1,none⟩) (Nat.le_refl _) _).setCell (p:=⟨w.heap.size,2,none⟩) (Nat.le_refl _) _).setCell (p:=⟨w.heap.size,3,none⟩) (Nat.le_refl _) _).setCell (p:=⟨w.heap.size,4,none⟩) (Nat.le_refl _) _⟩
/-- A scalar of a whole number. -/
theorem intScal_whole {q:Int} {b:Bool} {ns ds:List Int} (h0:-9223372036854775808≤q) (h1:q<9223372036854775808) (h:WholeIs q b ns ds):IntScal (arrT [] [numT b ns ds]) q:=by
 have hm:measI (measF 15) (numT b ns ds)=some (0,0):=measI_num rfl ⟨h.right,rfl,rfl⟩;have hs:measF 16 (arrT [] [numT b ns ds])=some (0,1):=meas_scalar (Or.inl rfl) hm;refine ⟨rfl,by rw [hs];rfl,fun m ok hi => ?_⟩;have e0:(sizeF (arrT [] [numT b ns ds]).ns).1=1:=by show (sizeF []).1=1;decide
 rcases hi with ⟨_,ht⟩ | ⟨hno,_⟩
 · have hsg:=h.sg.1
   have ht:TellsInt (numT b ns ds) m ok:=ht;rcases ht with ⟨_,ht⟩ | ⟨hk,_⟩
   · rcases ht with ⟨h1',h2,h3,h4,h5⟩ | ⟨h1',h2,h3⟩
     · exact ⟨h5.trans hsg,h1'⟩
     · refine absurd ⟨⟨h.right,h.2.2.2.2⟩,?_,?_⟩ h3
       · show _≤sg b (val ns)
         rw [hsg];exact h0
       · show sg b (val ns)<_
         rw [hsg];exact h1
   · exact absurd rfl hk
 · exact absurd ⟨rfl,by rw [hs];rfl,by rw [e0];decide⟩ hno
end Go.Proofs.YtheaeggecpfcbaaGreat
