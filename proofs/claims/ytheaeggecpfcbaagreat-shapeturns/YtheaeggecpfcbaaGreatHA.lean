/- shape.ofTwo: the functions of two arrays, by their glyphs. -/
import Derived.Test.YtheaeggecpfcbaaGreatKS1
import Derived.Test.YtheaeggecpfcbaaGreatK7
import Derived.Test.YtheaeggecpfcbaaGreatH9
import Derived.Test.YtheaeggecpfcbaaGreatK12
import Derived.Test.YtheaeggecpfcbaaGreatKD
set_option maxRecDepth 100000
set_option maxHeartbeats 16000000
set_option linter.unusedVariables false
set_option linter.unusedSimpArgs false
namespace Go.Proofs.YtheaeggecpfcbaaGreat
open Go.RowKit
def onL (b:Nat):Value:=.func (.func 102) #[] #[.pointer (some ⟨b,0,none⟩)]
def onF (b:Nat):Value:=.func (.func 107) #[] #[.pointer (some ⟨b,0,none⟩)]
def shTab (b:Nat):List (Int×Value):=[(9076,.func (.func 53) #[] #[]),(44,.func (.func 54) #[] #[]),(9066,.func (.func 57) #[] #[]),(8593,.func (.func 58) #[] #[]),(8595,.func (.func 59) #[] #[]),(9021,onL (b+2)),(8854,onF (b+3)),(9033,.func (.func 63) #[] #[.pointer (some ⟨b,0,none⟩)]),(47,onL (b+4)),(9023,onF (b+5)),(92,onL (b+6)),(9024,onF (b+7))]
theorem last_makes (k:Nat) (w:World):Calls Tryz.prog 60 #[.func (.func k) #[] #[]] w fun e w'=>e=.returned (onL w.heap.size)∧w'=w.alloc (.cells #[.func (.func k) #[] #[]] 124):=by
 go_enter Tryz.func60,Tryz.ntmps60;go_wp2
 go_ret
 exact ⟨rfl,rfl⟩
theorem first_makes (k:Nat) (w:World):Calls Tryz.prog 62 #[.func (.func k) #[] #[]] w fun e w'=>e=.returned (onF w.heap.size)∧w'=w.alloc (.cells #[.func (.func k) #[] #[]] 124):=by
 go_enter Tryz.func62,Tryz.ntmps62;go_wp2
 go_ret
 exact ⟨rfl,rfl⟩
/-- What ofTwo leaves: the table in block b + 1, the origin in block b, what goes along an axis in the blocks behind. -/
structure ShTwoIs (b:Nat) (io:Int) (w':World):Prop where
 tab:MapIs w' (b+1) (shTab b)
 io:w'.cell? ⟨b,0,none⟩=some (.int .i64 io)
 c2:w'.cell? ⟨b+2,0,none⟩=some (.func (.func 61) #[] #[])
 c3:w'.cell? ⟨b+3,0,none⟩=some (.func (.func 61) #[] #[])
 c4:w'.cell? ⟨b+4,0,none⟩=some (.func (.func 65) #[] #[])
 c5:w'.cell? ⟨b+5,0,none⟩=some (.func (.func 65) #[] #[])
 c6:w'.cell? ⟨b+6,0,none⟩=some (.func (.func 66) #[] #[])
 c7:w'.cell? ⟨b+7,0,none⟩=some (.func (.func 66) #[] #[])
 size:w'.heap.size=b+8
theorem shOfTwo_any (io:Int) (w:World):Calls Tryz.prog 33 #[.int .i64 io] w fun e w'=>e=.returned (.map (some (w.heap.size+1)))∧ShTwoIs w.heap.size io w'∧Below w.heap.size w w':=by
 have k0:=below_alloc w (.cells #[.int .i64 io] 3);have X0:=boxA_new w #[.int .i64 io] 3;have hmm:=@run_makeMap Tryz.prog;have u0:=MapIs.new (w.alloc (.cells #[.int .i64 io] 3));have km:=below_alloc (w.alloc (.cells #[.int .i64 io] 3)) (.map #[] 0);have X:=X0.below km X0.lt;rw [World.size_alloc] at u0;have sv:((w.alloc (.cells #[.int .i64 io] 3)).alloc (.map #[] 0)).heap.size=w.heap.size+2:=by simp
 have kb:Below w.heap.size w ((w.alloc (.cells #[.int .i64 io] 3)).alloc (.map #[] 0)):=k0.trans (km.mono (by simp));have z0:=X.cell 0 rfl;go_enter Tryz.func33,Tryz.ntmps33;clear k0 km X0;generalize hV:(w.alloc (.cells #[.int .i64 io] 3)).alloc (.map #[] 0)=v0 at *;have p0:=Kp.refl (w.heap.size+1) v0;obtain ⟨v1,r1,u1,q1,t1⟩:=MapIs.put (P:=Tryz.prog) (mty:=77) (k:=9076) (v:=.func (.func 53) #[] #[]) Tryz.underlying77 Tryz.underlying21 u0 (by simp);have p1:=p0.trans q1;obtain ⟨v2,r2,u2,q2,t2⟩:=MapIs.put (P:=Tryz.prog) (mty:=77) (k:=44) (v:=.func (.func 54) #[] #[]) Tryz.underlying77 Tryz.underlying21 u1 (by simp);have p2:=p1.trans q2;obtain ⟨v3,r3,u3,q3,t3⟩:=MapIs.put (P:=Tryz.prog) (mty:=77) (k:=9066) (v:=.func (.func 57) #[] #[]) Tryz.underlying77 Tryz.underlying21 u2 (by simp);have p3:=p2.trans q3;obtain ⟨v4,r4,u4,q4,t4⟩:=MapIs.put (P:=Tryz.prog) (mty:=77) (k:=8593) (v:=.func (.func 58) #[] #[]) Tryz.underlying77 Tryz.underlying21 u3 (by simp);have p4:=p3.trans q4;obtain ⟨v5,r5,u5,q5,t5⟩:=MapIs.put (P:=Tryz.prog) (mty:=77) (k:=8595) (v:=.func (.func 59) #[] #[]) Tryz.underlying77 Tryz.underlying21 u4 (by simp);have p5:=p4.trans q5;simp only [List.nil_append,List.cons_append] at u5
 go_wp2_with fail
 have s6:v5.heap.size=w.heap.size+2:=by rw [t5,t4,t3,t2,t1];exact sv
 refine (last_makes 61 v5).mono ?_;rintro e x6 ⟨rfl,hx6⟩;rw [s6];have d6:=below_alloc v5 (.cells #[.func (.func 61) #[] #[]] 124);rw [← hx6] at d6;have sa6:x6.heap.size=w.heap.size+3:=by rw [hx6,World.size_alloc,s6]
 have y6:x6.cell? ⟨w.heap.size+2,0,none⟩=some (.func (.func 61) #[] #[]):=by
  have:=(boxA_new v5 #[.func (.func 61) #[] #[]] 124).cell 0 rfl;rw [hx6,← s6];exact this
 have ux6:=u5.of_below d6;have px6:=p5.trans (Kp.of_below d6);clear hx6;obtain ⟨v6,r6,u6,q6,t6⟩:=MapIs.put (P:=Tryz.prog) (mty:=77) (k:=9021) (v:=onL (w.heap.size+2)) Tryz.underlying77 Tryz.underlying21 ux6 (by simp);have p6:=px6.trans q6;simp only [List.nil_append,List.cons_append] at u6
 go_wp2_with fail
 have s7:v6.heap.size=w.heap.size+3:=by rw [t6];exact sa6
 refine (first_makes 61 v6).mono ?_;rintro e x7 ⟨rfl,hx7⟩;rw [s7];have d7:=below_alloc v6 (.cells #[.func (.func 61) #[] #[]] 124);rw [← hx7] at d7;have sa7:x7.heap.size=w.heap.size+4:=by rw [hx7,World.size_alloc,s7]
 have y7:x7.cell? ⟨w.heap.size+3,0,none⟩=some (.func (.func 61) #[] #[]):=by
  have:=(boxA_new v6 #[.func (.func 61) #[] #[]] 124).cell 0 rfl;rw [hx7,← s7];exact this
 have ux7:=u6.of_below d7;have px7:=p6.trans (Kp.of_below d7);clear hx7;obtain ⟨v7,r7,u7,q7,t7⟩:=MapIs.put (P:=Tryz.prog) (mty:=77) (k:=8854) (v:=onF (w.heap.size+3)) Tryz.underlying77 Tryz.underlying21 ux7 (by simp);have p7:=px7.trans q7;obtain ⟨v8,r8,u8,q8,t8⟩:=MapIs.put (P:=Tryz.prog) (mty:=77) (k:=9033) (v:=.func (.func 63) #[] #[.pointer (some ⟨w.heap.size,0,none⟩)]) Tryz.underlying77 Tryz.underlying21 u7 (by simp);have p8:=p7.trans q8;simp only [List.nil_append,List.cons_append] at u8
 go_wp2_with fail
 have s9:v8.heap.size=w.heap.size+4:=by rw [t8,t7];exact sa7
 refine (last_makes 65 v8).mono ?_;rintro e x9 ⟨rfl,hx9⟩;rw [s9];have d9:=below_alloc v8 (.cells #[.func (.func 65) #[] #[]] 124);rw [← hx9] at d9;have sa9:x9.heap.size=w.heap.size+5:=by rw [hx9,World.size_alloc,s9]
 have y9:x9.cell? ⟨w.heap.size+4,0,none⟩=some (.func (.func 65) #[] #[]):=by
  have:=(boxA_new v8 #[.func (.func 65) #[] #[]] 124).cell 0 rfl;rw [hx9,← s9];exact this
 have ux9:=u8.of_below d9;have px9:=p8.trans (Kp.of_below d9);clear hx9;obtain ⟨v9,r9,u9,q9,t9⟩:=MapIs.put (P:=Tryz.prog) (mty:=77) (k:=47) (v:=onL (w.heap.size+4)) Tryz.underlying77 Tryz.underlying21 ux9 (by simp);have p9:=px9.trans q9;simp only [List.nil_append,List.cons_append] at u9
 go_wp2_with fail
 have s10:v9.heap.size=w.heap.size+5:=by rw [t9];exact sa9
 refine (first_makes 65 v9).mono ?_;rintro e x10 ⟨rfl,hx10⟩;rw [s10];have d10:=below_alloc v9 (.cells #[.func (.func 65) #[] #[]] 124);rw [← hx10] at d10;have sa10:x10.heap.size=w.heap.size+6:=by rw [hx10,World.size_alloc,s10]
 have y10:x10.cell? ⟨w.heap.size+5,0,none⟩=some (.func (.func 65) #[] #[]):=by
  have:=(boxA_new v9 #[.func (.func 65) #[] #[]] 124).cell 0 rfl;rw [hx10,← s10];exact this
 have ux10:=u9.of_below d10;have px10:=p9.trans (Kp.of_below d10);clear hx10;obtain ⟨v10,r10,u10,q10,t10⟩:=MapIs.put (P:=Tryz.prog) (mty:=77) (k:=9023) (v:=onF (w.heap.size+5)) Tryz.underlying77 Tryz.underlying21 ux10 (by simp);have p10:=px10.trans q10;simp only [List.nil_append,List.cons_append] at u10
 go_wp2_with fail
 have s11:v10.heap.size=w.heap.size+6:=by rw [t10];exact sa10
 refine (last_makes 66 v10).mono ?_;rintro e x11 ⟨rfl,hx11⟩;rw [s11];have d11:=below_alloc v10 (.cells #[.func (.func 66) #[] #[]] 124);rw [← hx11] at d11;have sa11:x11.heap.size=w.heap.size+7:=by rw [hx11,World.size_alloc,s11]
 have y11:x11.cell? ⟨w.heap.size+6,0,none⟩=some (.func (.func 66) #[] #[]):=by
  have:=(boxA_new v10 #[.func (.func 66) #[] #[]] 124).cell 0 rfl;rw [hx11,← s11];exact this
 have ux11:=u10.of_below d11;have px11:=p10.trans (Kp.of_below d11);clear hx11;obtain ⟨v11,r11,u11,q11,t11⟩:=MapIs.put (P:=Tryz.prog) (mty:=77) (k:=92) (v:=onL (w.heap.size+6)) Tryz.underlying77 Tryz.underlying21 ux11 (by simp);have p11:=px11.trans q11;simp only [List.nil_append,List.cons_append] at u11
 go_wp2_with fail
 have s12:v11.heap.size=w.heap.size+7:=by rw [t11];exact sa11
 refine (first_makes 66 v11).mono ?_;rintro e x12 ⟨rfl,hx12⟩;rw [s12];have d12:=below_alloc v11 (.cells #[.func (.func 66) #[] #[]] 124);rw [← hx12] at d12;have sa12:x12.heap.size=w.heap.size+8:=by rw [hx12,World.size_alloc,s12]
 have y12:x12.cell? ⟨w.heap.size+7,0,none⟩=some (.func (.func 66) #[] #[]):=by
  have:=(boxA_new v11 #[.func (.func 66) #[] #[]] 124).cell 0 rfl;rw [hx12,← s12];exact this
 have ux12:=u11.of_below d12;have px12:=p11.trans (Kp.of_below d12);clear hx12;obtain ⟨v12,r12,u12,q12,t12⟩:=MapIs.put (P:=Tryz.prog) (mty:=77) (k:=9024) (v:=onF (w.heap.size+7)) Tryz.underlying77 Tryz.underlying21 ux12 (by simp);have p12:=px12.trans q12;simp only [List.nil_append,List.cons_append] at u12;go_wp2
 go_ret
 have sE:v12.heap.size=w.heap.size+8:=by rw [t12];exact sa12
 exact ⟨rfl,⟨u12,p12.cell (by omega) z0,(((((((((((q6.trans (Kp.of_below d7)).trans q7).trans q8).trans (Kp.of_below d9)).trans q9).trans (Kp.of_below d10)).trans q10).trans (Kp.of_below d11)).trans q11).trans (Kp.of_below d12)).trans q12).cell (by omega) y6,(((((((((q7.trans q8).trans (Kp.of_below d9)).trans q9).trans (Kp.of_below d10)).trans q10).trans (Kp.of_below d11)).trans q11).trans (Kp.of_below d12)).trans q12).cell (by omega) y7,((((((q9.trans (Kp.of_below d10)).trans q10).trans (Kp.of_below d11)).trans q11).trans (Kp.of_below d12)).trans q12).cell (by omega) y9,((((q10.trans (Kp.of_below d11)).trans q11).trans (Kp.of_below d12)).trans q12).cell (by omega) y10,((q11.trans (Kp.of_below d12)).trans q12).cell (by omega) y11,q12.cell (by omega) y12,sE⟩,kb.trans (p12.below (by omega) (by omega))⟩
theorem zero_dyad6 (w:World):(zeroValue 76).run Tryz.prog w=.ok .nilFunc w:=by kernel_rfl
theorem eq_nil6 (fn:Fn) (x y:Array Value) (w:World):(binOp BinOp.eql 76 (.func fn x y) .nilFunc).run Tryz.prog w=.ok (.bool false) w:=by kernel_rfl
section
variable {f:Nat} {D:Nat→Prop} {w:World} {x1 x2 a1 a2:Option Addr} {y1 y2 b1 b2:Nat} {t s:Tr} {n:Int}
theorem first_rot {kb:Nat} (hD:∀ g,D g→g<w.heap.size) (hA:ArV (f+1) D w (.slice x1 t.ns.length y1) (.slice x2 t.kids.length y2) t) (hm:(measF 16 t).isSome=true)
    (hS:ArV (f+1) D w (.slice a1 s.ns.length b1) (.slice a2 s.kids.length b2) s) (hn:IntScal s n) (hk:w.cell? ⟨kb,0,none⟩=some (.func (.func 61) #[] #[])) (hkb:kb<w.heap.size) :
    Calls Tryz.prog 107 #[.agg #[.slice a1 s.ns.length b1,.slice a2 s.kids.length b2],.agg #[.slice x1 t.ns.length y1,.slice x2 t.kids.length y2],.pointer (some ⟨kb,0,none⟩)] w fun e w'=>∃ z1 u1 z2 u2,e=.returned (.tuple #[.agg #[.slice z1 t.ns.length u1,.slice z2 t.kids.length u2],.int .i64 0])∧ArV (f+1) (Fr w.heap.size w'.heap.size) w' (.slice z1 t.ns.length u1) (.slice z2 t.kids.length u2) (rotT n t)∧Below w.heap.size w w':=by
 have HD:Hid (∀ g,D g→g<w.heap.size):=hD;have HA:Hid (ArV (f+1) D w (.slice x1 t.ns.length y1) (.slice x2 t.kids.length y2) t):=hA;have HM:Hid ((measF 16 t).isSome=true):=hm;have HS:Hid (ArV (f+1) D w (.slice a1 s.ns.length b1) (.slice a2 s.kids.length b2) s):=hS;have HN:Hid (IntScal s n):=hn;have k0:=below_alloc w (.cells #[.slice a1 s.ns.length b1,.slice a2 s.kids.length b2] 25);have S0:=boxA_new w #[.slice a1 s.ns.length b1,.slice a2 s.kids.length b2] 25;have k1:=below_alloc (w.alloc (.cells #[.slice a1 s.ns.length b1,.slice a2 s.kids.length b2] 25)) (.cells #[.slice x1 t.ns.length y1,.slice x2 t.kids.length y2] 25);have X0:=boxA_new (w.alloc (.cells #[.slice a1 s.ns.length b1,.slice a2 s.kids.length b2] 25)) #[.slice x1 t.ns.length y1,.slice x2 t.kids.length y2] 25;have k2:=below_alloc ((w.alloc (.cells #[.slice a1 s.ns.length b1,.slice a2 s.kids.length b2] 25)).alloc (.cells #[.slice x1 t.ns.length y1,.slice x2 t.kids.length y2] 25)) (.cells #[.slice none 0 0,.slice none 0 0] 25);have R0:=boxA_new ((w.alloc (.cells #[.slice a1 s.ns.length b1,.slice a2 s.kids.length b2] 25)).alloc (.cells #[.slice x1 t.ns.length y1,.slice x2 t.kids.length y2] 25)) #[.slice none 0 0,.slice none 0 0] 25;have S1:=(S0.below k1 (by simp)).below k2 (by simp;omega);have X1:=X0.below k2 (by simp);have kv:Below w.heap.size w _:=(k0.trans (k1.mono (by simp))).trans (k2.mono (by simp;omega));have sv:(((w.alloc (.cells #[.slice a1 s.ns.length b1,.slice a2 s.kids.length b2] 25)).alloc (.cells #[.slice x1 t.ns.length y1,.slice x2 t.kids.length y2] 25)).alloc (.cells #[.slice none 0 0,.slice none 0 0] 25)).heap.size=w.heap.size+1+1+1:=by simp
 rw [World.size_alloc] at X1;rw [World.size_alloc,World.size_alloc] at R0;have z0:=S1.cell 0 rfl;have z1:=S1.cell 1 rfl;have y0:=X1.cell 0 rfl;have y1':=X1.cell 1 rfl;have ck:=(kv.cell (p:=⟨kb,0,none⟩) hkb).trans hk;clear hD hA hm hS hn k0 k1 k2 X0 S0;go_enter Tryz.func107,Tryz.ntmps107
 go_wp2_with fail
 generalize hAA:((w.alloc (.cells #[.slice a1 s.ns.length b1,.slice a2 s.kids.length b2] 25)).alloc (.cells #[.slice x1 t.ns.length y1,.slice x2 t.kids.length y2] 25)).alloc (.cells #[.slice none 0 0,.slice none 0 0] 25)=v at *;clear hAA;have CP:=rotated_any (w:=v) (n:=n) (fun g hg=>by have:=HD.out g hg;omega) (HA.out.agree (Agree.of kv HD.out)) HM.out (HS.out.agree (Agree.of kv HD.out)) HN.out;refine CP.mono ?_;rintro e w7 ⟨p1,u1,p2,u2,rfl,hv,k7⟩;have HV:Hid (ArV (f+1) (Fr v.heap.size w7.heap.size) w7 (.slice p1 t.ns.length u1) (.slice p2 t.kids.length u2) (rotT n t)):=hv;have s7:=k7.size;have R7:=R0.below k7 (by omega);have kz:=kv.trans (k7.mono (by omega));clear CP hv z0 z1 y0 y1';have r0:=R7.cell 0 rfl;have r1:=R7.cell 1 rfl;have f0:=R7.frozen 0;have f1:=R7.frozen 1;have Rd:=R7.set2 (.slice p1 t.ns.length u1) (.slice p2 t.kids.length u2);have w0':=Rd.cell 0 rfl;have w1':=Rd.cell 1 rfl;go_wp2
 try simp only [Exit.inBlock,Exit.then]
 refine bodyPost_ret (v:=.tuple #[.agg #[.slice p1 t.ns.length u1,.slice p2 t.kids.length u2],.int .i64 0]) ?_ rfl ?_
 · simp [results,Tryz.results107,go_sem,w0',w1']
 refine ⟨p1,u1,p2,u2,rfl,?_,(kz.setCell (p:=⟨w.heap.size+1+1,0,none⟩) (by show w.heap.size≤w.heap.size+1+1;omega) _).setCell (p:=⟨w.heap.size+1+1,1,none⟩) (by show w.heap.size≤w.heap.size+1+1;omega) _⟩;refine ArV.imp ?_ ?_ (f+1) (f+1) _ _ _ (Nat.le_refl _) HV.out
 · rintro g' ⟨h1,h2⟩
   exact ⟨by omega,by simp [World.setCell];exact h2⟩
 · rintro g' ⟨h1,h2⟩
   have hne:¬ w.heap.size+1+1=g':=by omega
   simp [World.setCell,Array.getElem?_modify,hne]
theorem dyadic_rot {eb:Bool} {e1 e2:Option Addr} {m1 c1 m2 c2:Nat} {pp:Int} (hD:∀ g,D g→g<w.heap.size) (hA:ArV (f+1) D w (.slice x1 t.ns.length y1) (.slice x2 t.kids.length y2) t) (hm:(measF 16 t).isSome=true)
    (hS:ArV (f+1) D w (.slice a1 s.ns.length b1) (.slice a2 s.kids.length b2) s) (hn:IntScal s n) :
    Calls Tryz.prog 11 #[.agg #[.int .i64 1,.bool eb,.slice e1 m1 c1,.slice e2 m2 c2,.int .i64 pp],.int .i32 8854,.agg #[.slice a1 s.ns.length b1,.slice a2 s.kids.length b2],.agg #[.slice x1 t.ns.length y1,.slice x2 t.kids.length y2]] w fun e w'=>∃ z1 u1 z2 u2,e=.returned (.tuple #[.agg #[.slice z1 t.ns.length u1,.slice z2 t.kids.length u2],.int .i64 0])∧ArV (f+1) (Fr w.heap.size w'.heap.size) w' (.slice z1 t.ns.length u1) (.slice z2 t.kids.length u2) (rotT n t)∧Below w.heap.size w w':=by
 have HD:Hid (∀ g,D g→g<w.heap.size):=hD;have HA:Hid (ArV (f+1) D w (.slice x1 t.ns.length y1) (.slice x2 t.kids.length y2) t):=hA;have HM:Hid ((measF 16 t).isSome=true):=hm;have HS:Hid (ArV (f+1) D w (.slice a1 s.ns.length b1) (.slice a2 s.kids.length b2) s):=hS;have HN:Hid (IntScal s n):=hn;have kE:=below_alloc w (.cells #[.int .i64 1,.bool eb,.slice e1 m1 c1,.slice e2 m2 c2,.int .i64 pp] 36);have E0:=boxA_new w #[.int .i64 1,.bool eb,.slice e1 m1 c1,.slice e2 m2 c2,.int .i64 pp] 36;obtain ⟨va,hva⟩:∃ va,w.alloc (.cells #[.int .i64 1,.bool eb,.slice e1 m1 c1,.slice e2 m2 c2,.int .i64 pp] 36)=va:=⟨_,rfl⟩;have sa:va.heap.size=w.heap.size+1:=by rw [← hva,World.size_alloc]
 rw [hva] at kE E0;have kS:=below_alloc va (.cells #[.slice a1 s.ns.length b1,.slice a2 s.kids.length b2] 25);have S0:=boxA_new va #[.slice a1 s.ns.length b1,.slice a2 s.kids.length b2] 25;obtain ⟨vb,hvb⟩:∃ vb,va.alloc (.cells #[.slice a1 s.ns.length b1,.slice a2 s.kids.length b2] 25)=vb:=⟨_,rfl⟩;have sb:vb.heap.size=w.heap.size+1+1:=by rw [← hvb,World.size_alloc,sa]
 rw [hvb] at kS S0;have kX:=below_alloc vb (.cells #[.slice x1 t.ns.length y1,.slice x2 t.kids.length y2] 25);have X0:=boxA_new vb #[.slice x1 t.ns.length y1,.slice x2 t.kids.length y2] 25;obtain ⟨vc,hvc⟩:∃ vc,vb.alloc (.cells #[.slice x1 t.ns.length y1,.slice x2 t.kids.length y2] 25)=vc:=⟨_,rfl⟩;have sc:vc.heap.size=w.heap.size+1+1+1:=by rw [← hvc,World.size_alloc,sb]
 rw [hvc] at kX X0;have kR:=below_alloc vc (.cells #[.slice none 0 0,.slice none 0 0] 25);have R0:=boxA_new vc #[.slice none 0 0,.slice none 0 0] 25;obtain ⟨v,hv⟩:∃ v,vc.alloc (.cells #[.slice none 0 0,.slice none 0 0] 25)=v:=⟨_,rfl⟩;have sv:v.heap.size=w.heap.size+1+1+1+1:=by rw [← hv,World.size_alloc,sc]
 rw [hv] at kR R0;rw [sa] at S0;rw [sb] at X0;rw [sc] at R0;have E1:=((E0.below kS (by omega)).below kX (by omega)).below kR (by omega);have S1:=(S0.below kX (by omega)).below kR (by omega);have X1:=X0.below kR (by omega);have kv:Below w.heap.size w v:=((kE.trans (kS.mono (by omega))).trans (kX.mono (by omega))).trans (kR.mono (by omega));have q0:=E1.cell 0 rfl;clear hD hA hm hS hn kE kS kX kR E0 S0 X0;go_enter Tryz.func11,Tryz.ntmps11;have C1:=shOfTwo_any 1 v;have hnf:=eq_nil6
 go_wp2_with fail
 refine C1.mono ?_;rintro e w1 ⟨rfl,hT,q1⟩;have hget:(Instr.lookup 77 (.map (some (v.heap.size+1))) (.int .i32 8854) false).run Tryz.prog w1=.ok (.func (.func 107) #[] #[.pointer (some ⟨v.heap.size+3,0,none⟩)]) w1:=MapIs.get (k:=8854) Tryz.underlying77 Tryz.underlying21 (zero_dyad6 w1) hT.tab;rw [sv] at hget;have hc3:=hT.c3;have s1:=q1.size;have hs1:v.heap.size+3<w1.heap.size:=by have:=hT.size;omega
 have E2:=E1.below q1 (by omega);have S2:=S1.below q1 (by omega);have X2:=X1.below q1 (by omega);have R2:=R0.below q1 (by omega);have kw1:=kv.trans (q1.mono (by omega));have kl:=below_alloc w1 (.cells #[.slice a1 s.ns.length b1,.slice a2 s.kids.length b2,.slice x1 t.ns.length y1,.slice x2 t.kids.length y2] 25);have BL:=boxA_new w1 #[.slice a1 s.ns.length b1,.slice a2 s.kids.length b2,.slice x1 t.ns.length y1,.slice x2 t.kids.length y2] 25;have sl:(w1.alloc (.cells #[.slice a1 s.ns.length b1,.slice a2 s.kids.length b2,.slice x1 t.ns.length y1,.slice x2 t.kids.length y2] 25)).heap.size=w1.heap.size+1:=by simp
 have kw2:=kw1.trans (kl.mono (by omega));have CR:=refused_ok (w:=w1.alloc (.cells #[.slice a1 s.ns.length b1,.slice a2 s.kids.length b2,.slice x1 t.ns.length y1,.slice x2 t.kids.length y2] 25)) (D:=fun g=>D g∨g=w1.heap.size) (f:=f+1) (ts:=[s,t]) (a:=some ⟨w1.heap.size,0,none⟩) (c:=2) (eb:=eb) (e1:=e1) (e2:=e2) (m1:=m1) (k1:=c1) (m2:=m2) (k2:=c2) (pp:=pp) (fun g hg=>by
  rcases hg with hg | hg
  · have:=HD.out g hg
    omega
  · omega) (fun u hu=>by
  simp at hu;rcases hu with rfl | rfl
  · exact HN.out.2.1
  · exact HM.out) ⟨_,_,rfl,by simp,by omega,(fun h=>by cases h),Or.inr ⟨w1.heap.size,0,rfl,Or.inr rfl,fun j hj=>by
  match j,hj with
  | 0,_=>exact ⟨_,_,_,_,_,_,BL.cell 0 rfl,BL.cell 1 rfl,ArV.imp (fun g hg=>Or.inl hg) (Agree.of kw2 HD.out) (f+1) (f+1) _ _ s (Nat.le_refl _) HS.out⟩
  | 1,_=>exact ⟨_,_,_,_,_,_,BL.cell 2 rfl,BL.cell 3 rfl,ArV.imp (fun g hg=>Or.inl hg) (Agree.of kw2 HD.out) (f+1) (f+1) _ _ t (Nat.le_refl _) HA.out⟩⟩⟩
 have p0:=E2.cell 0 rfl;have p1:=E2.cell 1 rfl;have p2:=E2.cell 2 rfl;have p3:=E2.cell 3 rfl;have p4:=E2.cell 4 rfl;have u0:=S2.cell 0 rfl;have u1:=S2.cell 1 rfl;have o0:=X2.cell 0 rfl;have o1:=X2.cell 1 rfl;clear q0 C1 E1 S1 X1 R0 hT
 go_wp2_with fail
 refine CR.mono ?_;rintro e w3 ⟨rfl,q3⟩;have s3:=q3.size;have S3:=(S2.below kl (by omega)).below q3 (by omega);have X3:=(X2.below kl (by omega)).below q3 (by omega);have R3:=(R2.below kl (by omega)).below q3 (by omega);have kw3:=kw2.trans (q3.mono (by omega));have hc4:w3.cell? ⟨v.heap.size+3,0,none⟩=some (.func (.func 61) #[] #[]):=((q3.cell (p:=⟨v.heap.size+3,0,none⟩) (by show v.heap.size+3<_;omega)).trans (kl.cell (p:=⟨v.heap.size+3,0,none⟩) (by show v.heap.size+3<_;omega))).trans hc3;rw [sv] at hc4;clear CR p0 p1 p2 p3 p4 u0 u1 o0 o1 E2 S2 X2 hget;have u0:=S3.cell 0 rfl;have u1:=S3.cell 1 rfl;have o0:=X3.cell 0 rfl;have o1:=X3.cell 1 rfl;have CP:=first_rot (w:=w3) (kb:=w.heap.size+1+1+1+1+3) (n:=n) (fun g hg=>by have:=HD.out g hg;omega) (HA.out.agree (Agree.of kw3 HD.out)) HM.out (HS.out.agree (Agree.of kw3 HD.out)) HN.out hc4 (by omega)
 go_wp2_with fail
 refine CP.mono ?_;rintro e w7 ⟨p1,u1,p2,u2,rfl,hv,k7⟩;have HV:Hid (ArV (f+1) (Fr w3.heap.size w7.heap.size) w7 (.slice p1 t.ns.length u1) (.slice p2 t.kids.length u2) (rotT n t)):=hv;have s7:=k7.size;have R7:=R3.below k7 (by omega);have kz:=kw3.trans (k7.mono (by omega));clear CP hv u0 o0 o1;have r0:=R7.cell 0 rfl;have r1:=R7.cell 1 rfl;have f0:=R7.frozen 0;have f1:=R7.frozen 1;have Rd:=R7.set2 (.slice p1 t.ns.length u1) (.slice p2 t.kids.length u2);have w0':=Rd.cell 0 rfl;have w1':=Rd.cell 1 rfl;go_wp2
 try simp only [Exit.inBlock,Exit.then]
 refine bodyPost_ret (v:=.tuple #[.agg #[.slice p1 t.ns.length u1,.slice p2 t.kids.length u2],.int .i64 0]) ?_ rfl ?_
 · simp [results,Tryz.results11,go_sem,w0',w1']
 refine ⟨p1,u1,p2,u2,rfl,?_,(kz.setCell (p:=⟨w.heap.size+1+1+1,0,none⟩) (by show w.heap.size≤w.heap.size+1+1+1;omega) _).setCell (p:=⟨w.heap.size+1+1+1,1,none⟩) (by show w.heap.size≤w.heap.size+1+1+1;omega) _⟩;refine ArV.imp ?_ ?_ (f+1) (f+1) _ _ _ (Nat.le_refl _) HV.out
 · rintro g' ⟨h1,h2⟩
   exact ⟨by omega,by simp [World.setCell];exact h2⟩
 · rintro g' ⟨h1,h2⟩
   have hne:¬ w.heap.size+1+1+1=g':=by omega
   simp [World.setCell,Array.getElem?_modify,hne]
end
theorem env6_any (w:World):Calls Tryz.prog 12 #[] w fun e w'=>e=.returned (.agg #[.int .i64 1,.bool false,.slice none 0 0,.slice none 0 0,.int .i64 0])∧Below w.heap.size w w':=by
 have k0:=below_alloc w (.cells #[.int .i64 0,.bool false,.slice none 0 0,.slice none 0 0,.int .i64 0] 36);have X0:=boxA_new w #[.int .i64 0,.bool false,.slice none 0 0,.slice none 0 0,.int .i64 0] 36;have hb:∀ w1,(Instr.build 36 #[(0,.int .i64 1)]).run Tryz.prog w1=.ok (.agg #[.int .i64 1,.bool false,.slice none 0 0,.slice none 0 0,.int .i64 0]) w1:=fun w1=>by kernel_rfl
 obtain ⟨v,hv⟩:∃ v,w.alloc (.cells #[.int .i64 0,.bool false,.slice none 0 0,.slice none 0 0,.int .i64 0] 36)=v:=⟨_,rfl⟩;rw [hv] at k0 X0;have f0:=X0.frozen 0;have f1:=X0.frozen 1;have f2:=X0.frozen 2;have f3:=X0.frozen 3;have f4:=X0.frozen 4;have c0:=X0.cell 0 rfl;have c1:=X0.cell 1 rfl;have c2:=X0.cell 2 rfl;have c3:=X0.cell 3 rfl;have c4:=X0.cell 4 rfl;have Y:=((((X0.putZ 0 (.int .i64 1)).putZ 1 (.bool false)).putZ 2 (.slice none 0 0)).putZ 3 (.slice none 0 0)).putZ 4 (.int .i64 0);have d0:=Y.cell 0 rfl;have d1:=Y.cell 1 rfl;have d2:=Y.cell 2 rfl;have d3:=Y.cell 3 rfl;have d4:=Y.cell 4 rfl;go_enter Tryz.func12,Tryz.ntmps12;go_wp2
 try simp only [Exit.inBlock,Exit.then]
 refine bodyPost_ret (v:=.agg #[.int .i64 1,.bool false,.slice none 0 0,.slice none 0 0,.int .i64 0]) (by simp [results,Tryz.results12,go_sem,d0,d1,d2,d3,d4]) rfl ?_;exact ⟨rfl,((((k0.setCell (p:=⟨w.heap.size,0,none⟩) (Nat.le_refl _) _).setCell (p:=⟨w.heap.size,1,none⟩) (Nat.le_refl _) _).setCell (p:=⟨w.heap.size,2,none⟩) (Nat.le_refl _) _).setCell (p:=⟨w.heap.size,3,none⟩) (Nat.le_refl _) _).setCell (p:=⟨w.heap.size,4,none⟩) (Nat.le_refl _) _⟩
/-- A scalar of a whole number. -/
theorem intScal_whole {q:Int} {b:Bool} {ns ds:List Int} (h0:-9223372036854775808≤q) (h1:q<9223372036854775808) (h:WholeIs q b ns ds):IntScal (arrT [] [numT b ns ds]) q:=by
 have hm:measI (measF 15) (numT b ns ds)=some (0,0):=measI_num rfl ⟨h.right,rfl,rfl⟩;have hs:measF 16 (arrT [] [numT b ns ds])=some (0,1):=meas_scalar (Or.inl rfl) hm;refine ⟨rfl,by rw [hs];rfl,fun m ok hi => ?_⟩;have e0:(sizeF (arrT [] [numT b ns ds]).ns).1=1:=by show (sizeF []).1=1;decide
 rcases hi with ⟨_,ht⟩ | ⟨hno,_⟩
 · have hsg:=h.sg.1
   have ht:TellsInt (numT b ns ds) m ok:=ht;rcases ht with ⟨_,ht⟩ | ⟨hk,_⟩
   · rcases ht with ⟨h1',h2,h3,h4,h5⟩ | ⟨h1',h2,h3⟩
     · exact ⟨h5.trans hsg,h1'⟩
     · refine absurd ⟨⟨h.right,h.2.2.2.2⟩,?_,?_⟩ h3
       · show _≤sg b (val ns)
         rw [hsg];exact h0
       · show sg b (val ns)<_
         rw [hsg];exact h1
   · exact absurd rfl hk
 · exact absurd ⟨rfl,by rw [hs];rfl,by rw [e0];decide⟩ hno
theorem int6_any (w:World) (q:Int) (h0:-9223372036854775808≤q) (h1:q<9223372036854775808):Calls Tryz.prog 10 #[.int .i64 q] w fun e w'=>∃ k s,e=.returned (.agg #[.slice none 0 0,.slice (some ⟨k,0,none⟩) 1 1])∧Hid (s.ns.length=0∧s.kids.length=1∧ArV 1 (Fr w.heap.size w'.heap.size) w' (.slice none 0 0) (.slice (some ⟨k,0,none⟩) 1 1) s∧IntScal s q)∧Below w.heap.size w w':=by
 refine (arrInt_any w q h0 h1).mono ?_;rintro e w' ⟨b,ns,ds,hw,k,rfl,hn,hk⟩;exact ⟨k,arrT [] [numT b ns ds],rfl,⟨rfl,rfl,numAt_arv hn,intScal_whole h0 h1 hw.out⟩,hk⟩
/-- Turned twice. -/
theorem rotI_add {n m:Int} {sh:List Int} {l:List Tr} (hE:(sizeF sh).2=0) (hl:(l.length:Int)=max (sizeF sh).1 1):rotI m sh (rotI n sh l)=rotI (n+m) sh l:=by
 unfold rotI;by_cases hc:(sizeF sh).1=0∨sh=[]
 · simp only [if_pos hc]
 · simp only [if_neg hc]
   have h1:(sizeF sh).1≠0:=fun h=>hc (Or.inl h);obtain ⟨n0,r,rfl⟩:∃ n0 r,sh=n0 :: r:=by
    cases sh with
    | nil=>exact absurd (Or.inr rfl) hc
    | cons n0 r=>exact ⟨n0,r,rfl⟩
   obtain ⟨_,hpos,hprod⟩:=size_items hE h1;have hp:=prodL_pos (n0 :: r) hpos;have h0:=hpos n0 (by simp);have hr:=prodL_pos r (fun x hx=>hpos x (by simp [hx]));have hl:(l.length:Int)=n0*prodL r:=by rw [← prodL];omega
   obtain ⟨N,rfl⟩:=Int.eq_ofNat_of_zero_le (show 0≤n0 by omega);obtain ⟨P,hP⟩:=Int.eq_ofNat_of_zero_le (show 0≤prodL r by omega);rw [hP,← Int.natCast_mul] at hl;have hl:l.length=N*P:=by omega
   show rotK (m % (N:Int)).toNat _ (rotK (n % (N:Int)).toNat _ l)=rotK ((n+m) % (N:Int)).toNat _ l;unfold rotK;rw [List.tail_cons,hP,Int.toNat_natCast];obtain ⟨a,ha⟩:=Int.eq_ofNat_of_zero_le (Int.emod_nonneg n (show (N:Int)≠0 by omega));obtain ⟨b,hb⟩:=Int.eq_ofNat_of_zero_le (Int.emod_nonneg m (show (N:Int)≠0 by omega));obtain ⟨c,hcc⟩:=Int.eq_ofNat_of_zero_le (Int.emod_nonneg (n+m) (show (N:Int)≠0 by omega));have la:=Int.emod_lt_of_pos n (show (0:Int)<N by omega);have lb:=Int.emod_lt_of_pos m (show (0:Int)<N by omega);have lc:=Int.emod_lt_of_pos (n+m) (show (0:Int)<N by omega);have hab:a+b=c∨a+b=c+N:=by
    have e:(n+m) % (N:Int)=((n % (N:Int))+(m % (N:Int))) % (N:Int):=Int.add_emod _ _ _;rw [ha,hb,hcc] at e;rw [ha] at la;rw [hb] at lb;by_cases hs:a+b<N
    · left
      rw [Int.emod_eq_of_lt (by omega) (by omega)] at e;omega
    · right
      have e2:((a:Int)+(b:Int)) % (N:Int)=((a:Int)+(b:Int) - (N:Int)) % (N:Int):=(Int.sub_emod_right _ _).symm;rw [e2,Int.emod_eq_of_lt (by omega) (by omega)] at e;omega
   rw [ha,hb,hcc,Int.toNat_natCast,Int.toNat_natCast,Int.toNat_natCast];rw [ha] at la;rw [hb] at lb;rw [hcc] at lc;have m1:a*P≤N*P:=Nat.mul_le_mul_right _ (by omega);have m2:b*P≤N*P:=Nat.mul_le_mul_right _ (by omega);have m3:c*P≤N*P:=Nat.mul_le_mul_right _ (by omega);refine rotL_rotL (by omega) (by omega) ?_ (by omega);rcases hab with h | h
   · left;rw [← Nat.add_mul,h]
   · right;rw [← Nat.add_mul,h,Nat.add_mul,hl]
end Go.Proofs.YtheaeggecpfcbaaGreat
