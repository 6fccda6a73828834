/- scalar.whole at and, or, nand of arrays of bits. -/
import Derived.Test.YtmijanocljmaeaaGreatKS4
import Derived.Test.YtmijanocljmaeaaGreatM1
import Derived.Test.YtmijanocljmaeaaGreatM2
import Derived.Test.YtmijanocljmaeaaGreatKS1
import Derived.Test.YtmijanocljmaeaaGreatK7
set_option maxRecDepth 100000
set_option maxHeartbeats 16000000
set_option linter.unusedVariables false
set_option linter.unusedSimpArgs false
namespace Go.Proofs.YtmijanocljmaeaaGreat
open Go.RowKit
section
variable {D:Nat→Prop} {f:Nat} {w v:World} {p gA oA gB oB bh kf:Nat} {op:Bool→Bool→Bool} {la lb:List Tr} {qa qb:List Bool} {j k:Nat} {cc gl:Int}
variable (hD:∀ g,D g→g<w.heap.size) (hp:∀ g,D g→g≠p) (hgA:D gA) (hgB:D gB) (hcA:∀ j,j<la.length→ItC (ArV f D w) D w gA (oA+j*6) (la.getD j tr0)) (hcB:∀ j,j<lb.length→ItC (ArV f D w) D w gB (oB+j*6) (lb.getD j tr0)) (wA:Bits qa la) (wB:Bits qb lb) (hj:j<la.length) (hk:k<lb.length)
include hD hp hgA hgB hcA hcB wA wB hj hk
end
section
variable {D:Nat→Prop} {f:Nat} {w:World} {ba bb gA oA cA gB oB cB n:Nat} {la lb L:List Tr} {qa qb:List Bool} {bh kf:Nat} {op:Bool→Bool→Bool} {gl:Int} {x1:Option Addr} {y1:Nat} {sh:List Int}
end
/-- A glyph, its function of truths, and the place where that lies. -/
def LogK (gl:Int) (kf:Nat) (op:Bool→Bool→Bool) (d:Nat):Prop:=(gl=8743∧kf=95∧op=(fun a b=>a && b)∧d=8)∨(gl=8744∧kf=96∧op=(fun a b=>a || b)∧d=9)∨(gl=9074∧kf=97∧op=(fun a b => !(a && b))∧d=10)
theorem LogK.glyph {gl:Int} {kf d:Nat} {op:Bool→Bool→Bool} (h:LogK gl kf op d):LogG gl:=by
 rcases h with ⟨rfl,_⟩ | ⟨rfl,_⟩ | ⟨rfl,_⟩
 · exact Or.inl rfl
 · exact Or.inr (Or.inl rfl)
 · exact Or.inr (Or.inr rfl)
theorem LogK.holds {gl:Int} {kf d:Nat} {op:Bool→Bool→Bool} (h:LogK gl kf op d):HoldB kf op:=by
 rcases h with ⟨_,rfl,rfl,_⟩ | ⟨_,rfl,rfl,_⟩ | ⟨_,rfl,rfl,_⟩
 · exact holdB_10
 · exact holdB_11
 · exact holdB_12
theorem LogK.value {gl:Int} {kf d:Nat} {op:Bool→Bool→Bool} (h:LogK gl kf op d) (b:Nat):atKey .nilFunc gl (tab2 b)=.func (.func 137) #[] #[.pointer (some ⟨b+d,0,none⟩)]:=by
 rcases h with ⟨rfl,_,_,rfl⟩ | ⟨rfl,_,_,rfl⟩ | ⟨rfl,_,_,rfl⟩ <;> rfl
theorem LogK.cell {gl:Int} {kf d:Nat} {op:Bool→Bool→Bool} (h:LogK gl kf op d) {b:Nat} {bb:Bool} {a1:Option Addr} {n1 c1:Nat} {a2:Option Addr} {n2 c2:Nat} {w':World} (hT:OfTwo b bb a1 n1 c1 a2 n2 c2 w'):w'.cell? ⟨b+d,0,none⟩=some (.func (.func kf) #[] #[]):=by
 obtain ⟨_,_,_,_,_,_,_,_,_,h8,h9,h10,_⟩:=hT.cells;rcases h with ⟨_,rfl,_,rfl⟩ | ⟨_,rfl,_,rfl⟩ | ⟨_,rfl,_,rfl⟩
 · exact h8
 · exact h9
 · exact h10
section
variable {w:World} {x1 x2 x3 x4:Option Addr} {n1 y1 n2 y2 n3 y3 n4 y4:Nat} {D:Nat→Prop} {sa sb:List Int}
theorem together_same (hD:∀ g,D g→g<w.heap.size) (h1:RdN D w (.slice x1 n1 y1) sa) (h2:RdN D w (.slice x3 n3 y3) sb) (he:sa=sb):Calls Tryz.prog 19 #[.agg #[.slice x1 n1 y1,.slice x2 n2 y2],.agg #[.slice x3 n3 y3,.slice x4 n4 y4]] w fun e w'=>e=.returned (.tuple #[.slice x1 n1 y1,.int .i64 0])∧Below w.heap.size w w':=by
 have k1:=below_alloc w (.cells #[.slice x1 n1 y1,.slice x2 n2 y2] 25);have k2:=below_alloc (w.alloc (.cells #[.slice x1 n1 y1,.slice x2 n2 y2] 25)) (.cells #[.slice x3 n3 y3,.slice x4 n4 y4] 25);have X:=(boxA_new w #[.slice x1 n1 y1,.slice x2 n2 y2] 25).below k2 (by simp);have Y:=boxA_new (w.alloc (.cells #[.slice x1 n1 y1,.slice x2 n2 y2] 25)) #[.slice x3 n3 y3,.slice x4 n4 y4] 25;rw [World.size_alloc] at Y;have g:Below w.heap.size w ((w.alloc (.cells #[.slice x1 n1 y1,.slice x2 n2 y2] 25)).alloc (.cells #[.slice x3 n3 y3,.slice x4 n4 y4] 25)):=k1.trans (k2.mono (by simp));have sv:((w.alloc (.cells #[.slice x1 n1 y1,.slice x2 n2 y2] 25)).alloc (.cells #[.slice x3 n3 y3,.slice x4 n4 y4] 25)).heap.size=w.heap.size+1+1:=by simp
 have C1:=equalN_any (h1.imp (fun _ h=>h) (Agree.of g hD)) (h2.imp (fun _ h=>h) (Agree.of g hD));rw [decide_eq_true he] at C1;have x0:=X.cell 0 rfl;have y0:=Y.cell 0 rfl;clear k1 k2 hD h1 h2 he;go_enter Tryz.func19,Tryz.ntmps19
 go_wp2_with fail
 generalize hA:(w.alloc (.cells #[.slice x1 n1 y1,.slice x2 n2 y2] 25)).alloc (.cells #[.slice x3 n3 y3,.slice x4 n4 y4] 25)=v at *;clear hA x0 y0;refine C1.mono ?_;rintro e w1 ⟨rfl,q1⟩;clear C1;have X1:=X.below q1 (by omega);have Y1:=Y.below q1 (by omega);have s1:=q1.size;have x0:=X1.cell 0 rfl;go_wp2
 go_ret2
 exact ⟨rfl,g.trans (q1.mono g.size)⟩
end
section
variable {D:Nat→Prop} {f:Nat} {w:World} {io pp:Int} {bc:Bool} {e1 e2:Option Addr} {cn cd:List Int} {f1 f2:Nat} {x1 x2 x3 x4:Option Addr} {n1 y1 n2 y2 n3 y3 n4 y4:Nat} {t s:Tr} {gl:Int} {kf d:Nat} {op:Bool→Bool→Bool}
end
section
variable {D:Nat→Prop} {f:Nat} {w:World} {io pp:Int} {bc:Bool} {e1 e2:Option Addr} {cn cd:List Int} {f1 f2:Nat} {x1 x2 x3 x4:Option Addr} {n1 y1 n2 y2 n3 y3 n4 y4:Nat} {t s:Tr} {gl:Int} {kf d:Nat} {op:Bool→Bool→Bool}
end
section
variable {w:World} {h:Bool} {a1 a2 a3:Option Addr} {c1 c2 n3 c3:Nat} {c:Int}
end
section
variable {w:World} {gS oS y1:Nat} {n2 y2:Nat} {x2:Option Addr} {q:Int}
end
section
variable {D:Nat→Prop} {f:Nat} {w:World} {gS oS y1 gA oA cA n:Nat} {la L:List Tr} {qa:List Bool}
end
section
variable {D:Nat→Prop} {w:World} {x1:Option Addr} {y1:Nat} {sh:List Int}
theorem empty_any (hsh:RdN D w (.slice x1 sh.length y1) sh) (hl:sh.length*8≤140737488355328) (hD:∀ g,D g→g<w.heap.size) :
    Calls Tryz.prog 62 #[.slice x1 sh.length y1] w fun e w'=>∃ x5 y5 b3 d3,e=.returned (.agg #[.slice x5 sh.length y5,.slice b3 1 d3])∧ArV 1 (Fr w.heap.size w'.heap.size) w' (.slice x5 sh.length y5) (.slice b3 1 d3) (arrT sh [wholeT 0])∧Below w.heap.size w w':=by
 have R:=boxA_new w #[.slice none 0 0,.slice none 0 0] 25;have g:=below_alloc w (.cells #[.slice none 0 0,.slice none 0 0] 25);have lR:=R.lt;have sz:(w.alloc (.cells #[.slice none 0 0,.slice none 0 0] 25)).heap.size=w.heap.size+1:=by simp
 have C1:=copyOf5_any (hsh.imp (fun _ h=>h) (Agree.of g hD)) hl;clear hsh hD;go_enter Tryz.func62,Tryz.ntmps62
 go_wp2_with fail
 generalize hA:w.alloc (.cells #[.slice none 0 0,.slice none 0 0] 25)=v at *;clear hA;refine C1.mono ?_;rintro e w1 ⟨x5,y5,rfl,oN,k1⟩;clear C1;have s1:=k1.size
 go_wp2_with fail
 refine (ofInt_any 0 (by omega) (by omega) w1).mono ?_;rintro e w2 ⟨k2,b,ns,ds,z1,u1,z2,u2,hw,rfl,ho1,ho2⟩;have s2:=k2.size;have hb:(Instr.build 63 #[(0,.int .u8 1),(1,.agg #[.bool b,.slice z1 ns.length u1,.slice z2 ds.length u2])]).run Tryz.prog w2=.ok (.agg #[.int .u8 1,.bool b,.slice z1 ns.length u1,.slice z2 ds.length u2,.int .i32 0,.slice none 0 0]) w2:=by kernel_rfl
 have kI:=below_alloc w2 (.cells #[.int .u8 1,.bool b,.slice z1 ns.length u1,.slice z2 ds.length u2,.int .i32 0,.slice none 0 0] 63);have BI:=boxA_new w2 #[.int .u8 1,.bool b,.slice z1 ns.length u1,.slice z2 ds.length u2,.int .i32 0,.slice none 0 0] 63;have sI:(w2.alloc (.cells #[.int .u8 1,.bool b,.slice z1 ns.length u1,.slice z2 ds.length u2,.int .i32 0,.slice none 0 0] 63)).heap.size=w2.heap.size+1:=by simp
 have RI:=((R.below k1 (by omega)).below k2 (by omega)).below kI (by omega);have gI:Below w.heap.size w (w2.alloc (.cells #[.int .u8 1,.bool b,.slice z1 ns.length u1,.slice z2 ds.length u2,.int .i32 0,.slice none 0 0] 63)):=((g.trans (k1.mono g.size)).trans (k2.mono (by omega))).trans (kI.mono (by omega));have oN3:=(oN.imp (D':=Fr v.heap.size w1.heap.size) (fun _ h=>h) (Agree.of k2 (fun q hq=>hq.2))).imp (D':=Fr v.heap.size w1.heap.size) (fun _ h=>h) (Agree.of kI (fun q hq=>by have:=hq.2;omega));have HN:Hid (RdN (Fr v.heap.size w1.heap.size) (w2.alloc (.cells #[.int .u8 1,.bool b,.slice z1 ns.length u1,.slice z2 ds.length u2,.int .i32 0,.slice none 0 0] 63)) (.slice x5 sh.length y5) sh):=oN3;have HO1:Hid (RdL (fun g=>w1.heap.size≤g∧g<w2.heap.size) w2 (.slice z1 ns.length u1) ns):=RdL.of_own ho1;have HO2:Hid (RdL (fun g=>w1.heap.size≤g∧g<w2.heap.size) w2 (.slice z2 ds.length u2) ds):=RdL.of_own ho2;have HT:Hid (numT b ns ds=wholeT 0):=wholeIs_eq (by decide) (by decide) hw.out;clear oN oN3 ho1 ho2 hw;have r0:=RI.cell 0 rfl;have r1:=RI.cell 1 rfl;have f0:=RI.frozen 0;have f1:=RI.frozen 1;go_wp2
 have Q:=boxA_s1 (boxA_s0 RI (.slice x5 sh.length y5)) (.slice (some ⟨w2.heap.size,0,none⟩) 1 1);have j0:=Q.cell 0 rfl;have j1:=Q.cell 1 rfl;refine bodyPost_ret (v:=.agg #[.slice x5 sh.length y5,.slice (some ⟨w2.heap.size,0,none⟩) 1 1]) (by simp [results,Tryz.results62,go_sem,j0,j1]) rfl ?_;have kS:∀ q,q≠w.heap.size→(((w2.alloc (.cells #[.int .u8 1,.bool b,.slice z1 ns.length u1,.slice z2 ds.length u2,.int .i32 0,.slice none 0 0] 63)).setCell ⟨w.heap.size,0,none⟩ (.slice x5 sh.length y5)).setCell ⟨w.heap.size,1,none⟩ (.slice (some ⟨w2.heap.size,0,none⟩) 1 1)).heap[q]? = (w2.alloc (.cells #[.int .u8 1,.bool b,.slice z1 ns.length u1,.slice z2 ds.length u2,.int .i32 0,.slice none 0 0] 63)).heap[q]?:=fun q hq=>by rw [set1_other (by show ¬ w.heap.size=q;omega),set1_other (by show ¬ w.heap.size=q;omega)]
 have sS:(((w2.alloc (.cells #[.int .u8 1,.bool b,.slice z1 ns.length u1,.slice z2 ds.length u2,.int .i32 0,.slice none 0 0] 63)).setCell ⟨w.heap.size,0,none⟩ (.slice x5 sh.length y5)).setCell ⟨w.heap.size,1,none⟩ (.slice (some ⟨w2.heap.size,0,none⟩) 1 1)).heap.size=w2.heap.size+1:=by rw [set1_size,set1_size];exact sI
 refine ⟨x5,y5,some ⟨w2.heap.size,0,none⟩,1,rfl,⟨HN.out.imp (fun q hq=>⟨by have:=hq.1;omega,by have:=hq.2;omega⟩) (fun q hq=>kS q (by have:=hq.1;omega)),_,1,rfl,Nat.le_refl _,by omega,(fun h=>by cases h),Or.inr ⟨w2.heap.size,0,rfl,⟨by omega,by omega⟩,fun j hj => ?_⟩⟩,Below.set2 gI (Nat.le_refl _) _ _⟩;have hj:j<1:=hj;obtain rfl:j=0:=by omega
 have hBI:BoxA (((w2.alloc (.cells #[.int .u8 1,.bool b,.slice z1 ns.length u1,.slice z2 ds.length u2,.int .i32 0,.slice none 0 0] 63)).setCell ⟨w.heap.size,0,none⟩ (.slice x5 sh.length y5)).setCell ⟨w.heap.size,1,none⟩ (.slice (some ⟨w2.heap.size,0,none⟩) 1 1)) w2.heap.size 63 #[.int .u8 1,.bool b,.slice z1 ns.length u1,.slice z2 ds.length u2,.int .i32 0,.slice none 0 0]:=by
  have:=BI;unfold BoxA at this ⊢;rw [kS _ (by omega)];exact this
 show ItC _ _ _ w2.heap.size 0 (wholeT 0);rw [← HT.out];have ag:Agree (fun g=>w1.heap.size≤g∧g<w2.heap.size) w2 (((w2.alloc (.cells #[.int .u8 1,.bool b,.slice z1 ns.length u1,.slice z2 ds.length u2,.int .i32 0,.slice none 0 0] 63)).setCell ⟨w.heap.size,0,none⟩ (.slice x5 sh.length y5)).setCell ⟨w.heap.size,1,none⟩ (.slice (some ⟨w2.heap.size,0,none⟩) 1 1)):=fun q hq=>by
  rw [kS q (by have:=hq.1;omega)];exact kI.block q hq.2
 exact ⟨z1,u1,z2,u2,none,0,⟨hBI.cell 0 rfl,hBI.cell 1 rfl,hBI.cell 2 rfl,hBI.cell 3 rfl,hBI.cell 4 rfl,hBI.cell 5 rfl⟩,HO1.out.imp (fun q hq=>⟨by have:=hq.1;omega,by have:=hq.2;omega⟩) ag,HO2.out.imp (fun q hq=>⟨by have:=hq.1;omega,by have:=hq.2;omega⟩) ag,none,0,rfl,Nat.le_refl _,by omega,fun _=>rfl,Or.inl rfl⟩
end
section
variable {D:Nat→Prop} {w:World} {gS oS y1 n2 y2:Nat} {x2:Option Addr}
end
section
variable {D:Nat→Prop} {w:World} {p ba bb:Nat} {F:Value} {x1:Option Addr} {y1:Nat} {sh:List Int} {gl kp:Int}
end
def tab1:List (Int×Value):=[(43,.func (.func 47) #[] #[]),(45,.func (.func 48) #[] #[]),(215,.func (.func 49) #[] #[]),(247,.func (.func 51) #[] #[]),(8968,.func (.func 52) #[] #[]),(8970,.func (.func 53) #[] #[]),(124,.func (.func 54) #[] #[]),(42,.func (.func 55) #[] #[]),(33,.func (.func 56) #[] #[]),(126,.func (.func 57) #[] #[])]
theorem ofOne_any (w:World):Calls Tryz.prog 25 #[] w fun e w'=>e=.returned (.map (some w.heap.size))∧MapIs w' w.heap.size tab1∧Below w.heap.size w w':=by
 have hmm:=@run_makeMap Tryz.prog;have u0:=MapIs.new w;have km:=below_alloc w (.map #[] 0);have sv:(w.alloc (.map #[] 0)).heap.size=w.heap.size+1:=by simp
 go_enter Tryz.func25,Tryz.ntmps25;generalize hV:w.alloc (.map #[] 0)=v0 at *;have p0:=Kp.refl w.heap.size v0;obtain ⟨v1,r1,u1,q1,t1⟩:=MapIs.put (P:=Tryz.prog) (mty:=66) (k:=43) (v:=.func (.func 47) #[] #[]) Tryz.underlying66 Tryz.underlying21 u0 (by simp);have p1:=p0.trans q1;obtain ⟨v2,r2,u2,q2,t2⟩:=MapIs.put (P:=Tryz.prog) (mty:=66) (k:=45) (v:=.func (.func 48) #[] #[]) Tryz.underlying66 Tryz.underlying21 u1 (by simp);have p2:=p1.trans q2;obtain ⟨v3,r3,u3,q3,t3⟩:=MapIs.put (P:=Tryz.prog) (mty:=66) (k:=215) (v:=.func (.func 49) #[] #[]) Tryz.underlying66 Tryz.underlying21 u2 (by simp);have p3:=p2.trans q3;obtain ⟨v4,r4,u4,q4,t4⟩:=MapIs.put (P:=Tryz.prog) (mty:=66) (k:=247) (v:=.func (.func 51) #[] #[]) Tryz.underlying66 Tryz.underlying21 u3 (by simp);have p4:=p3.trans q4;obtain ⟨v5,r5,u5,q5,t5⟩:=MapIs.put (P:=Tryz.prog) (mty:=66) (k:=8968) (v:=.func (.func 52) #[] #[]) Tryz.underlying66 Tryz.underlying21 u4 (by simp);have p5:=p4.trans q5;obtain ⟨v6,r6,u6,q6,t6⟩:=MapIs.put (P:=Tryz.prog) (mty:=66) (k:=8970) (v:=.func (.func 53) #[] #[]) Tryz.underlying66 Tryz.underlying21 u5 (by simp);have p6:=p5.trans q6;obtain ⟨v7,r7,u7,q7,t7⟩:=MapIs.put (P:=Tryz.prog) (mty:=66) (k:=124) (v:=.func (.func 54) #[] #[]) Tryz.underlying66 Tryz.underlying21 u6 (by simp);have p7:=p6.trans q7;obtain ⟨v8,r8,u8,q8,t8⟩:=MapIs.put (P:=Tryz.prog) (mty:=66) (k:=42) (v:=.func (.func 55) #[] #[]) Tryz.underlying66 Tryz.underlying21 u7 (by simp);have p8:=p7.trans q8;obtain ⟨v9,r9,u9,q9,t9⟩:=MapIs.put (P:=Tryz.prog) (mty:=66) (k:=33) (v:=.func (.func 56) #[] #[]) Tryz.underlying66 Tryz.underlying21 u8 (by simp);have p9:=p8.trans q9;obtain ⟨v10,r10,u10,q10,t10⟩:=MapIs.put (P:=Tryz.prog) (mty:=66) (k:=126) (v:=.func (.func 57) #[] #[]) Tryz.underlying66 Tryz.underlying21 u9 (by simp);have p10:=p9.trans q10;simp only [List.nil_append,List.cons_append] at u10
 go_wp2_with fail
 go_ret
 exact ⟨rfl,u10,km.trans (p10.below (Nat.le_refl _) (by omega))⟩
end Go.Proofs.YtmijanocljmaeaaGreat
