/- Maps of functions, keyed by characters, that a call makes: laid entry by entry, and looked up. -/
import Derived.Test.YtilbfkabfgnhpaaGreatJ1
import Derived.MapKept
import Derived.WideMake
import Derived.Test.YtilbfkabfgnhpaaGreatK7
import Derived.Test.YtilbfkabfgnhpaaGreatJ4
import Derived.Test.YtilbfkabfgnhpaaGreatK8
set_option maxRecDepth 100000
set_option maxHeartbeats 16000000
set_option linter.unusedVariables false
set_option linter.unusedSimpArgs false
namespace Go.Proofs.YtilbfkabfgnhpaaGreat
open Go.RowKit
/-- Block B is a map with just these entries. -/
def MapIs (w:World) (B:Nat) (l:List (Int×Value)):Prop:=∃ E n,w.heap[B]? = some (.map E n)∧E.toList.map (fun x=>(x.key,x.val))=l.map (fun p=>(Value.int .i32 p.1,p.2))
/-- All blocks but B stay, and there may be new ones. -/
structure Kp (B:Nat) (w w':World):Prop where
 os:w'.os=w.os
 tape:w'.tape=w.tape
 output:w'.output=w.output
 size:w.heap.size≤w'.heap.size
 block:∀ g,g<w.heap.size→g≠B→w'.heap[g]? = w.heap[g]?
theorem Kp.refl (B:Nat) (w:World):Kp B w w:=⟨rfl,rfl,rfl,Nat.le_refl _,fun _ _ _=>rfl⟩
theorem Kp.trans {B:Nat} {a b c:World} (h:Kp B a b) (k:Kp B b c):Kp B a c:=⟨k.os.trans h.os,k.tape.trans h.tape,k.output.trans h.output,Nat.le_trans h.size k.size,fun g hg hB=>(k.block g (Nat.lt_of_lt_of_le hg h.size) hB).trans (h.block g hg hB)⟩
theorem Kp.of_below {B:Nat} {w w':World} (h:Below w.heap.size w w'):Kp B w w':=⟨h.os,h.tape,h.output,h.size,fun g hg _=>h.block g hg⟩
theorem Kp.below {B C:Nat} {w w':World} (h:Kp B w w') (hC:C≤B) (hs:C≤w.heap.size):Below C w w':=⟨h.os,h.tape,h.output,h.size,fun g hg=>h.block g (by omega) (by omega)⟩
theorem Kp.cell {B g o:Nat} {w w':World} {v:Value} (h:Kp B w w') (hB:g≠B) (hc:w.cell? ⟨g,o,none⟩=some v):w'.cell? ⟨g,o,none⟩=some v:=by
 have hlt:g<w.heap.size:=by
  rcases Nat.lt_or_ge g w.heap.size with h' | h'
  · exact h'
  · simp [World.cell?,Array.getElem?_eq_none h'] at hc
 rw [World.cell?_of_block (w:=w) (h.block g hlt hB)];exact hc
theorem MapIs.new (w:World):MapIs (w.alloc (.map #[] 0)) w.heap.size []:=⟨#[],0,heap_alloc_new w _,rfl⟩
theorem MapIs.of_below {w w':World} {B:Nat} {l:List (Int×Value)} (h:MapIs w B l) (k:Below w.heap.size w w'):MapIs w' B l:=by
 obtain ⟨E,n,h1,h2⟩:=h;exact ⟨E,n,by rw [k.block B (lt_of_block h1)];exact h1,h2⟩
theorem keys_are {E:List MapEntry} {l:List (Int×Value)} (h:E.map (fun x=>(x.key,x.val))=l.map (fun p=>(Value.int .i32 p.1,p.2))):∀ x∈E,∃ p∈l,x.key=.int .i32 p.1∧x.val=p.2:=by
 intro x hx;have:(x.key,x.val)∈l.map (fun p=>(Value.int .i32 p.1,p.2)):=by rw [← h];exact List.mem_map_of_mem hx
 obtain ⟨p,hp,e⟩:=List.mem_map.1 this;exact ⟨p,hp,(Prod.mk.inj e).1.symm,(Prod.mk.inj e).2.symm⟩
section
variable {P:Program} {mty kt et:TypeId} {w:World} {B:Nat} {l:List (Int×Value)} {k:Int} {v:Value}
theorem MapIs.put (hm:P.underlying mty=some (.map kt et)) (hk:P.underlying kt=some (.int .i32)) (h:MapIs w B l) (hne:∀ p∈l,p.1≠k) :
    ∃ w',(Instr.mapUpdate mty (.map (some B)) (.int .i32 k) v).run P w=.ok () w'∧MapIs w' B (l++[(k,v)])∧Kp B w w'∧w'.heap.size=w.heap.size:=by
 obtain ⟨E,n,hb,hE⟩:=h;have hkeys:=keys_are hE;have hc:(Instr.checkKey false 10000 kt (.int .i32 k)).run P w=.ok () w:=MapKept.run_checkKey (k:=.int .i32 k) hk (by simp [MapKept.IsKey]) false 9999;have hf:Instr.findNow (.int .i32) (.int .i32 k) E.toList 0=some none:=by
  rcases MapKept.findNow_spec (d:=.int .i32) (k:=.int .i32 k) (by simp [MapKept.IsKey]) E.toList 0 (fun x hx=>by obtain ⟨p,_,e,_⟩:=hkeys x hx;rw [e];simp [MapKept.IsKey]) with ⟨h1,_⟩ | ⟨j,e,h1,h2,h3⟩
  · exact h1
  · obtain ⟨p,hp,e1,_⟩:=hkeys e (List.mem_of_getElem? h2)
    rw [e1] at h3
    cases h3
    exact absurd rfl (hne p hp)
 refine ⟨{ w with heap:=w.heap.setIfInBounds B (.map (E.push { key:=.int .i32 k,val:=v,born:=n }) (n+1)) },?_,⟨E.push { key:=.int .i32 k,val:=v,born:=n },n+1,?_,?_⟩,⟨rfl,rfl,rfl,by simp,fun g hg hgB => ?_⟩,by simp⟩
 · simp [Instr.mapUpdate,run_underlying hm,MapKept.run_getObj_map hb,hc,MapKept.run_findKey hk hf,MapKept.run_setObj_map _ hb,Result.andThen]
 · rw [Array.getElem?_setIfInBounds]
   simp [lt_of_block hb]
 · simp [hE]
 · rw [Array.getElem?_setIfInBounds]
   rw [if_neg (Ne.symm hgB)]
/-- What stands at a key. -/
def atKey (z:Value) (k:Int):List (Int×Value)→Value
 | []=>z
 | p :: l=>if p.1=k then p.2 else atKey z k l
theorem find_is {k:Int}:∀ (E:List MapEntry) (l:List (Int×Value)) (i:Nat),E.map (fun x=>(x.key,x.val))=l.map (fun p=>(Value.int .i32 p.1,p.2))→(Instr.findNow (.int .i32) (.int .i32 k) E i=some none∧∀ z,atKey z k l=z)∨∃ j v,Instr.findNow (.int .i32) (.int .i32 k) E i=some (some (j,v))∧∀ z,atKey z k l=v
 | [],[],_,_=>Or.inl ⟨rfl,fun _=>rfl⟩
 | [],_ :: _,_,h=>by simp at h
 | _ :: _,[],_,h=>by simp at h
 | x :: E,p :: l,i,h=>by
  simp only [List.map_cons,List.cons.injEq,Prod.mk.injEq] at h;obtain ⟨⟨h1,h2⟩,h3⟩:=h;by_cases hp:p.1=k
  · refine Or.inr ⟨i,x.val,?_,fun z => ?_⟩
    · simp [Instr.findNow,Instr.sameNow,h1,hp]
    · simp [atKey,hp,h2]
  · have hn:Instr.sameNow (.int .i32) (.int .i32 k) x.key=some false:=by rw [h1];simp [Instr.sameNow];exact fun e=>hp e.symm
    rcases find_is (k:=k) E l (i+1) h3 with ⟨g1,g2⟩ | ⟨j,v,g1,g2⟩
    · exact Or.inl ⟨by simp [Instr.findNow,hn,g1],fun z=>by simp [atKey,hp,g2]⟩
    · exact Or.inr ⟨j,v,by simp [Instr.findNow,hn,g1],fun z=>by simp [atKey,hp,g2]⟩
theorem MapIs.get {z:Value} (hm:P.underlying mty=some (.map kt et)) (hk:P.underlying kt=some (.int .i32)) (hz:(zeroValue et).run P w=.ok z w) (h:MapIs w B l):(Instr.lookup mty (.map (some B)) (.int .i32 k) false).run P w=.ok (atKey z k l) w:=by
 obtain ⟨E,n,hb,hE⟩:=h;have hc:(Instr.checkKey E.isEmpty 10000 kt (.int .i32 k)).run P w=.ok () w:=MapKept.run_checkKey (k:=.int .i32 k) hk (by simp [MapKept.IsKey]) _ 9999;rcases find_is (k:=k) E.toList l 0 hE with ⟨g1,g2⟩ | ⟨j,v,g1,g2⟩
 · rw [g2 z]
   simp [Instr.lookup,run_underlying hm,MapKept.run_getObj_map hb,hc,MapKept.run_findKey hk g1,hz,Result.andThen]
 · rw [g2 z]
   simp [Instr.lookup,run_underlying hm,MapKept.run_getObj_map hb,hc,MapKept.run_findKey hk g1,Result.andThen]
end
/-- A comparison: what holds lies in block b, the tolerance in block b0. -/
def cmpV (b0 b:Nat):Value:=.func (.func 83) #[] #[.pointer (some ⟨b,0,none⟩),.pointer (some ⟨b0,0,none⟩)]
def logV (b:Nat):Value:=.func (.func 152) #[] #[.pointer (some ⟨b,0,none⟩)]
def tab2 (b:Nat):List (Int×Value):=[(43,.func (.func 86) #[] #[]),(45,.func (.func 88) #[] #[]),(215,.func (.func 89) #[] #[]),(247,.func (.func 91) #[] #[]),(8968,.func (.func 92) #[] #[]),(8970,.func (.func 93) #[] #[]),(124,.func (.func 94) #[] #[]),(42,.func (.func 95) #[] #[]),(33,.func (.func 96) #[] #[]),(60,cmpV b (b+2)),(8804,cmpV b (b+3)),(61,cmpV b (b+4)),(8805,cmpV b (b+5)),(62,cmpV b (b+6)),(8800,cmpV b (b+7)),(8743,logV (b+8)),(8744,logV (b+9)),(9074,logV (b+10)),(9073,logV (b+11))]
theorem cmp_makes (k:Nat) (b0:Nat) (w:World):Calls Tryz.prog 82 #[.func (.func k) #[] #[],.pointer (some ⟨b0,0,none⟩)] w fun e w'=>e=.returned (cmpV b0 w.heap.size)∧w'=w.alloc (.cells #[.func (.func k) #[] #[]] 101):=by
 go_enter Tryz.func82,Tryz.ntmps82;go_wp2
 go_ret
 exact ⟨rfl,rfl⟩
theorem log_makes (k:Nat) (w:World):Calls Tryz.prog 103 #[.func (.func k) #[] #[]] w fun e w'=>e=.returned (logV w.heap.size)∧w'=w.alloc (.cells #[.func (.func k) #[] #[]] 105):=by
 go_enter Tryz.func103,Tryz.ntmps103;go_wp2
 go_ret
 exact ⟨rfl,rfl⟩
/-- What ofTwo leaves: the table in block b + 1, the tolerance in block b, what holds in the blocks behind. -/
structure OfTwo (b:Nat) (bb:Bool) (a1:Option Addr) (n1 c1:Nat) (a2:Option Addr) (n2 c2:Nat) (w':World):Prop where
 tab:MapIs w' (b+1) (tab2 b)
 cells:w'.cell? ⟨b,0,none⟩=some (.bool bb)∧w'.cell? ⟨b,1,none⟩=some (.slice a1 n1 c1)∧w'.cell? ⟨b,2,none⟩=some (.slice a2 n2 c2)∧w'.cell? ⟨b+2,0,none⟩=some (.func (.func 97) #[] #[])∧w'.cell? ⟨b+3,0,none⟩=some (.func (.func 98) #[] #[])∧w'.cell? ⟨b+4,0,none⟩=some (.func (.func 99) #[] #[])∧w'.cell? ⟨b+5,0,none⟩=some (.func (.func 100) #[] #[])∧w'.cell? ⟨b+6,0,none⟩=some (.func (.func 101) #[] #[])∧w'.cell? ⟨b+7,0,none⟩=some (.func (.func 102) #[] #[])∧w'.cell? ⟨b+8,0,none⟩=some (.func (.func 104) #[] #[])∧w'.cell? ⟨b+9,0,none⟩=some (.func (.func 105) #[] #[])∧w'.cell? ⟨b+10,0,none⟩=some (.func (.func 106) #[] #[])∧w'.cell? ⟨b+11,0,none⟩=some (.func (.func 107) #[] #[])
 size:w'.heap.size=b+12
theorem ofTwo_any (bb:Bool) (a1 a2:Option Addr) (n1 c1 n2 c2:Nat) (w:World):Calls Tryz.prog 31 #[.agg #[.bool bb,.slice a1 n1 c1,.slice a2 n2 c2]] w fun e w'=>e=.returned (.map (some (w.heap.size+1)))∧OfTwo w.heap.size bb a1 n1 c1 a2 n2 c2 w'∧Below w.heap.size w w':=by
 have k0:=below_alloc w (.cells #[.bool bb,.slice a1 n1 c1,.slice a2 n2 c2] 24);have X0:=boxA_new w #[.bool bb,.slice a1 n1 c1,.slice a2 n2 c2] 24;have hmm:=@run_makeMap Tryz.prog;have u0:=MapIs.new (w.alloc (.cells #[.bool bb,.slice a1 n1 c1,.slice a2 n2 c2] 24));have km:=below_alloc (w.alloc (.cells #[.bool bb,.slice a1 n1 c1,.slice a2 n2 c2] 24)) (.map #[] 0);have X:=X0.below km X0.lt;rw [World.size_alloc] at u0;have sv:((w.alloc (.cells #[.bool bb,.slice a1 n1 c1,.slice a2 n2 c2] 24)).alloc (.map #[] 0)).heap.size=w.heap.size+2:=by simp
 have kb:Below w.heap.size w ((w.alloc (.cells #[.bool bb,.slice a1 n1 c1,.slice a2 n2 c2] 24)).alloc (.map #[] 0)):=k0.trans (km.mono (by simp));have z0:=X.cell 0 rfl;have z1:=X.cell 1 rfl;have z2:=X.cell 2 rfl;go_enter Tryz.func31,Tryz.ntmps31;clear k0 km X0;generalize hV:(w.alloc (.cells #[.bool bb,.slice a1 n1 c1,.slice a2 n2 c2] 24)).alloc (.map #[] 0)=v0 at *;have p0:=Kp.refl (w.heap.size+1) v0;obtain ⟨v1,r1,u1,q1,t1⟩:=MapIs.put (P:=Tryz.prog) (mty:=60) (k:=43) (v:=.func (.func 86) #[] #[]) Tryz.underlying60 Tryz.underlying21 u0 (by simp);have p1:=p0.trans q1;obtain ⟨v2,r2,u2,q2,t2⟩:=MapIs.put (P:=Tryz.prog) (mty:=60) (k:=45) (v:=.func (.func 88) #[] #[]) Tryz.underlying60 Tryz.underlying21 u1 (by simp);have p2:=p1.trans q2;obtain ⟨v3,r3,u3,q3,t3⟩:=MapIs.put (P:=Tryz.prog) (mty:=60) (k:=215) (v:=.func (.func 89) #[] #[]) Tryz.underlying60 Tryz.underlying21 u2 (by simp);have p3:=p2.trans q3;obtain ⟨v4,r4,u4,q4,t4⟩:=MapIs.put (P:=Tryz.prog) (mty:=60) (k:=247) (v:=.func (.func 91) #[] #[]) Tryz.underlying60 Tryz.underlying21 u3 (by simp);have p4:=p3.trans q4;obtain ⟨v5,r5,u5,q5,t5⟩:=MapIs.put (P:=Tryz.prog) (mty:=60) (k:=8968) (v:=.func (.func 92) #[] #[]) Tryz.underlying60 Tryz.underlying21 u4 (by simp);have p5:=p4.trans q5;obtain ⟨v6,r6,u6,q6,t6⟩:=MapIs.put (P:=Tryz.prog) (mty:=60) (k:=8970) (v:=.func (.func 93) #[] #[]) Tryz.underlying60 Tryz.underlying21 u5 (by simp);have p6:=p5.trans q6;obtain ⟨v7,r7,u7,q7,t7⟩:=MapIs.put (P:=Tryz.prog) (mty:=60) (k:=124) (v:=.func (.func 94) #[] #[]) Tryz.underlying60 Tryz.underlying21 u6 (by simp);have p7:=p6.trans q7;obtain ⟨v8,r8,u8,q8,t8⟩:=MapIs.put (P:=Tryz.prog) (mty:=60) (k:=42) (v:=.func (.func 95) #[] #[]) Tryz.underlying60 Tryz.underlying21 u7 (by simp);have p8:=p7.trans q8;obtain ⟨v9,r9,u9,q9,t9⟩:=MapIs.put (P:=Tryz.prog) (mty:=60) (k:=33) (v:=.func (.func 96) #[] #[]) Tryz.underlying60 Tryz.underlying21 u8 (by simp);have p9:=p8.trans q9;simp only [List.nil_append,List.cons_append] at u9
 go_wp2_with fail
 have s9:v9.heap.size=w.heap.size+2:=by rw [t9,t8,t7,t6,t5,t4,t3,t2,t1];exact sv
 refine (cmp_makes 97 w.heap.size v9).mono ?_;rintro e x9 ⟨rfl,hx9⟩;rw [s9];have d9:=below_alloc v9 (.cells #[.func (.func 97) #[] #[]] 101);rw [← hx9] at d9;have sa9:x9.heap.size=w.heap.size+3:=by rw [hx9,World.size_alloc,s9]
 have y9:x9.cell? ⟨w.heap.size+2,0,none⟩=some (.func (.func 97) #[] #[]):=by
  have:=(boxA_new v9 #[.func (.func 97) #[] #[]] 101).cell 0 rfl;rw [hx9,← s9];exact this
 have ux9:=u9.of_below d9;have px9:=p9.trans (Kp.of_below d9);clear hx9;obtain ⟨v10,r10,u10,q10,t10⟩:=MapIs.put (P:=Tryz.prog) (mty:=60) (k:=60) (v:=cmpV w.heap.size (w.heap.size+2)) Tryz.underlying60 Tryz.underlying21 ux9 (by simp);have p10:=px9.trans q10;simp only [List.nil_append,List.cons_append] at u10
 go_wp2_with fail
 have s10:v10.heap.size=w.heap.size+3:=by rw [t10];exact sa9
 refine (cmp_makes 98 w.heap.size v10).mono ?_;rintro e x10 ⟨rfl,hx10⟩;rw [s10];have d10:=below_alloc v10 (.cells #[.func (.func 98) #[] #[]] 101);rw [← hx10] at d10;have sa10:x10.heap.size=w.heap.size+4:=by rw [hx10,World.size_alloc,s10]
 have y10:x10.cell? ⟨w.heap.size+3,0,none⟩=some (.func (.func 98) #[] #[]):=by
  have:=(boxA_new v10 #[.func (.func 98) #[] #[]] 101).cell 0 rfl;rw [hx10,← s10];exact this
 have ux10:=u10.of_below d10;have px10:=p10.trans (Kp.of_below d10);clear hx10;obtain ⟨v11,r11,u11,q11,t11⟩:=MapIs.put (P:=Tryz.prog) (mty:=60) (k:=8804) (v:=cmpV w.heap.size (w.heap.size+3)) Tryz.underlying60 Tryz.underlying21 ux10 (by simp);have p11:=px10.trans q11;simp only [List.nil_append,List.cons_append] at u11
 go_wp2_with fail
 have s11:v11.heap.size=w.heap.size+4:=by rw [t11];exact sa10
 refine (cmp_makes 99 w.heap.size v11).mono ?_;rintro e x11 ⟨rfl,hx11⟩;rw [s11];have d11:=below_alloc v11 (.cells #[.func (.func 99) #[] #[]] 101);rw [← hx11] at d11;have sa11:x11.heap.size=w.heap.size+5:=by rw [hx11,World.size_alloc,s11]
 have y11:x11.cell? ⟨w.heap.size+4,0,none⟩=some (.func (.func 99) #[] #[]):=by
  have:=(boxA_new v11 #[.func (.func 99) #[] #[]] 101).cell 0 rfl;rw [hx11,← s11];exact this
 have ux11:=u11.of_below d11;have px11:=p11.trans (Kp.of_below d11);clear hx11;obtain ⟨v12,r12,u12,q12,t12⟩:=MapIs.put (P:=Tryz.prog) (mty:=60) (k:=61) (v:=cmpV w.heap.size (w.heap.size+4)) Tryz.underlying60 Tryz.underlying21 ux11 (by simp);have p12:=px11.trans q12;simp only [List.nil_append,List.cons_append] at u12
 go_wp2_with fail
 have s12:v12.heap.size=w.heap.size+5:=by rw [t12];exact sa11
 refine (cmp_makes 100 w.heap.size v12).mono ?_;rintro e x12 ⟨rfl,hx12⟩;rw [s12];have d12:=below_alloc v12 (.cells #[.func (.func 100) #[] #[]] 101);rw [← hx12] at d12;have sa12:x12.heap.size=w.heap.size+6:=by rw [hx12,World.size_alloc,s12]
 have y12:x12.cell? ⟨w.heap.size+5,0,none⟩=some (.func (.func 100) #[] #[]):=by
  have:=(boxA_new v12 #[.func (.func 100) #[] #[]] 101).cell 0 rfl;rw [hx12,← s12];exact this
 have ux12:=u12.of_below d12;have px12:=p12.trans (Kp.of_below d12);clear hx12;obtain ⟨v13,r13,u13,q13,t13⟩:=MapIs.put (P:=Tryz.prog) (mty:=60) (k:=8805) (v:=cmpV w.heap.size (w.heap.size+5)) Tryz.underlying60 Tryz.underlying21 ux12 (by simp);have p13:=px12.trans q13;simp only [List.nil_append,List.cons_append] at u13
 go_wp2_with fail
 have s13:v13.heap.size=w.heap.size+6:=by rw [t13];exact sa12
 refine (cmp_makes 101 w.heap.size v13).mono ?_;rintro e x13 ⟨rfl,hx13⟩;rw [s13];have d13:=below_alloc v13 (.cells #[.func (.func 101) #[] #[]] 101);rw [← hx13] at d13;have sa13:x13.heap.size=w.heap.size+7:=by rw [hx13,World.size_alloc,s13]
 have y13:x13.cell? ⟨w.heap.size+6,0,none⟩=some (.func (.func 101) #[] #[]):=by
  have:=(boxA_new v13 #[.func (.func 101) #[] #[]] 101).cell 0 rfl;rw [hx13,← s13];exact this
 have ux13:=u13.of_below d13;have px13:=p13.trans (Kp.of_below d13);clear hx13;obtain ⟨v14,r14,u14,q14,t14⟩:=MapIs.put (P:=Tryz.prog) (mty:=60) (k:=62) (v:=cmpV w.heap.size (w.heap.size+6)) Tryz.underlying60 Tryz.underlying21 ux13 (by simp);have p14:=px13.trans q14;simp only [List.nil_append,List.cons_append] at u14
 go_wp2_with fail
 have s14:v14.heap.size=w.heap.size+7:=by rw [t14];exact sa13
 refine (cmp_makes 102 w.heap.size v14).mono ?_;rintro e x14 ⟨rfl,hx14⟩;rw [s14];have d14:=below_alloc v14 (.cells #[.func (.func 102) #[] #[]] 101);rw [← hx14] at d14;have sa14:x14.heap.size=w.heap.size+8:=by rw [hx14,World.size_alloc,s14]
 have y14:x14.cell? ⟨w.heap.size+7,0,none⟩=some (.func (.func 102) #[] #[]):=by
  have:=(boxA_new v14 #[.func (.func 102) #[] #[]] 101).cell 0 rfl;rw [hx14,← s14];exact this
 have ux14:=u14.of_below d14;have px14:=p14.trans (Kp.of_below d14);clear hx14;obtain ⟨v15,r15,u15,q15,t15⟩:=MapIs.put (P:=Tryz.prog) (mty:=60) (k:=8800) (v:=cmpV w.heap.size (w.heap.size+7)) Tryz.underlying60 Tryz.underlying21 ux14 (by simp);have p15:=px14.trans q15;simp only [List.nil_append,List.cons_append] at u15
 go_wp2_with fail
 have s15:v15.heap.size=w.heap.size+8:=by rw [t15];exact sa14
 refine (log_makes 104 v15).mono ?_;rintro e x15 ⟨rfl,hx15⟩;rw [s15];have d15:=below_alloc v15 (.cells #[.func (.func 104) #[] #[]] 105);rw [← hx15] at d15;have sa15:x15.heap.size=w.heap.size+9:=by rw [hx15,World.size_alloc,s15]
 have y15:x15.cell? ⟨w.heap.size+8,0,none⟩=some (.func (.func 104) #[] #[]):=by
  have:=(boxA_new v15 #[.func (.func 104) #[] #[]] 105).cell 0 rfl;rw [hx15,← s15];exact this
 have ux15:=u15.of_below d15;have px15:=p15.trans (Kp.of_below d15);clear hx15;obtain ⟨v16,r16,u16,q16,t16⟩:=MapIs.put (P:=Tryz.prog) (mty:=60) (k:=8743) (v:=logV (w.heap.size+8)) Tryz.underlying60 Tryz.underlying21 ux15 (by simp);have p16:=px15.trans q16;simp only [List.nil_append,List.cons_append] at u16
 go_wp2_with fail
 have s16:v16.heap.size=w.heap.size+9:=by rw [t16];exact sa15
 refine (log_makes 105 v16).mono ?_;rintro e x16 ⟨rfl,hx16⟩;rw [s16];have d16:=below_alloc v16 (.cells #[.func (.func 105) #[] #[]] 105);rw [← hx16] at d16;have sa16:x16.heap.size=w.heap.size+10:=by rw [hx16,World.size_alloc,s16]
 have y16:x16.cell? ⟨w.heap.size+9,0,none⟩=some (.func (.func 105) #[] #[]):=by
  have:=(boxA_new v16 #[.func (.func 105) #[] #[]] 105).cell 0 rfl;rw [hx16,← s16];exact this
 have ux16:=u16.of_below d16;have px16:=p16.trans (Kp.of_below d16);clear hx16;obtain ⟨v17,r17,u17,q17,t17⟩:=MapIs.put (P:=Tryz.prog) (mty:=60) (k:=8744) (v:=logV (w.heap.size+9)) Tryz.underlying60 Tryz.underlying21 ux16 (by simp);have p17:=px16.trans q17;simp only [List.nil_append,List.cons_append] at u17
 go_wp2_with fail
 have s17:v17.heap.size=w.heap.size+10:=by rw [t17];exact sa16
 refine (log_makes 106 v17).mono ?_;rintro e x17 ⟨rfl,hx17⟩;rw [s17];have d17:=below_alloc v17 (.cells #[.func (.func 106) #[] #[]] 105);rw [← hx17] at d17;have sa17:x17.heap.size=w.heap.size+11:=by rw [hx17,World.size_alloc,s17]
 have y17:x17.cell? ⟨w.heap.size+10,0,none⟩=some (.func (.func 106) #[] #[]):=by
  have:=(boxA_new v17 #[.func (.func 106) #[] #[]] 105).cell 0 rfl;rw [hx17,← s17];exact this
 have ux17:=u17.of_below d17;have px17:=p17.trans (Kp.of_below d17);clear hx17;obtain ⟨v18,r18,u18,q18,t18⟩:=MapIs.put (P:=Tryz.prog) (mty:=60) (k:=9074) (v:=logV (w.heap.size+10)) Tryz.underlying60 Tryz.underlying21 ux17 (by simp);have p18:=px17.trans q18;simp only [List.nil_append,List.cons_append] at u18
 go_wp2_with fail
 have s18:v18.heap.size=w.heap.size+11:=by rw [t18];exact sa17
 refine (log_makes 107 v18).mono ?_;rintro e x18 ⟨rfl,hx18⟩;rw [s18];have d18:=below_alloc v18 (.cells #[.func (.func 107) #[] #[]] 105);rw [← hx18] at d18;have sa18:x18.heap.size=w.heap.size+12:=by rw [hx18,World.size_alloc,s18]
 have y18:x18.cell? ⟨w.heap.size+11,0,none⟩=some (.func (.func 107) #[] #[]):=by
  have:=(boxA_new v18 #[.func (.func 107) #[] #[]] 105).cell 0 rfl;rw [hx18,← s18];exact this
 have ux18:=u18.of_below d18;have px18:=p18.trans (Kp.of_below d18);clear hx18;obtain ⟨v19,r19,u19,q19,t19⟩:=MapIs.put (P:=Tryz.prog) (mty:=60) (k:=9073) (v:=logV (w.heap.size+11)) Tryz.underlying60 Tryz.underlying21 ux18 (by simp);have p19:=px18.trans q19;simp only [List.nil_append,List.cons_append] at u19;go_wp2
 go_ret
 have sE:v19.heap.size=w.heap.size+12:=by rw [t19];exact sa18
 refine ⟨rfl,⟨u19,⟨p19.cell (by omega) z0,p19.cell (by omega) z1,p19.cell (by omega) z2,(((((((((q10.trans ((Kp.of_below d10).trans q11)).trans ((Kp.of_below d11).trans q12)).trans ((Kp.of_below d12).trans q13)).trans ((Kp.of_below d13).trans q14)).trans ((Kp.of_below d14).trans q15)).trans ((Kp.of_below d15).trans q16)).trans ((Kp.of_below d16).trans q17)).trans ((Kp.of_below d17).trans q18)).trans ((Kp.of_below d18).trans q19)).cell (by omega) y9,((((((((q11.trans ((Kp.of_below d11).trans q12)).trans ((Kp.of_below d12).trans q13)).trans ((Kp.of_below d13).trans q14)).trans ((Kp.of_below d14).trans q15)).trans ((Kp.of_below d15).trans q16)).trans ((Kp.of_below d16).trans q17)).trans ((Kp.of_below d17).trans q18)).trans ((Kp.of_below d18).trans q19)).cell (by omega) y10,(((((((q12.trans ((Kp.of_below d12).trans q13)).trans ((Kp.of_below d13).trans q14)).trans ((Kp.of_below d14).trans q15)).trans ((Kp.of_below d15).trans q16)).trans ((Kp.of_below d16).trans q17)).trans ((Kp.of_below d17).trans q18)).trans ((Kp.of_below d18).trans q19)).cell (by omega) y11,((((((q13.trans ((Kp.of_below d13).trans q14)).trans ((Kp.of_below d14).trans q15)).trans ((Kp.of_below d15).trans q16)).trans ((Kp.of_below d16).trans q17)).trans ((Kp.of_below d17).trans q18)).trans ((Kp.of_below d18).trans q19)).cell (by omega) y12,(((((q14.trans ((Kp.of_below d14).trans q15)).trans ((Kp.of_below d15).trans q16)).trans ((Kp.of_below d16).trans q17)).trans ((Kp.of_below d17).trans q18)).trans ((Kp.of_below d18).trans q19)).cell (by omega) y13,((((q15.trans ((Kp.of_below d15).trans q16)).trans ((Kp.of_below d16).trans q17)).trans ((Kp.of_below d17).trans q18)).trans ((Kp.of_below d18).trans q19)).cell (by omega) y14,(((q16.trans ((Kp.of_below d16).trans q17)).trans ((Kp.of_below d17).trans q18)).trans ((Kp.of_below d18).trans q19)).cell (by omega) y15,((q17.trans ((Kp.of_below d17).trans q18)).trans ((Kp.of_below d18).trans q19)).cell (by omega) y16,(q18.trans ((Kp.of_below d18).trans q19)).cell (by omega) y17,q19.cell (by omega) y18⟩,sE⟩,kb.trans (p19.below (by omega) (by omega))⟩
theorem BoxA.put {w:World} {B ty:Nat} {xs:Array Value} (h:BoxA w B ty xs) (i:Nat) (v:Value):BoxA (w.setCell ⟨B,i,none⟩ v) B ty (xs.setIfInBounds i v):=by
 unfold BoxA at h ⊢;simp [World.setCell,Array.getElem?_modify,h]
section
variable {w:World} {bx by_:Bool} {a1 a2 a3 a4:Option Addr} {n1 n2 n3 n4 c1 c2 c3 c4:Nat}
theorem hasNone_plus (p q:Nat):Calls Tryz.prog 164 #[.int .i32 43,.pointer (some ⟨p,0,none⟩),.pointer (some ⟨q,0,none⟩)] w fun e w'=>e=.returned (.bool false)∧w'=w:=by
 go_enter Tryz.func164,Tryz.ntmps164;go_wp2
 go_ret
 exact ⟨rfl,rfl⟩
theorem unreck_plus:Calls Tryz.prog 135 #[.int .i32 43,.agg #[.bool bx,.slice a1 n1 c1,.slice a2 n2 c2],.agg #[.bool by_,.slice a3 n3 c3,.slice a4 n4 c4]] w fun e w'=>e=.returned (.tuple #[.agg #[.bool false,.slice none 0 0,.slice none 0 0],.int .i64 0])∧Below w.heap.size w w':=by
 have k1:=below_alloc w (.cells #[.bool bx,.slice a1 n1 c1,.slice a2 n2 c2] 24);have k2:=below_alloc (w.alloc (.cells #[.bool bx,.slice a1 n1 c1,.slice a2 n2 c2] 24)) (.cells #[.bool by_,.slice a3 n3 c3,.slice a4 n4 c4] 24);have k3:=below_alloc ((w.alloc (.cells #[.bool bx,.slice a1 n1 c1,.slice a2 n2 c2] 24)).alloc (.cells #[.bool by_,.slice a3 n3 c3,.slice a4 n4 c4] 24)) (.cells #[.bool false,.slice none 0 0,.slice none 0 0] 24);have R:=boxA_new ((w.alloc (.cells #[.bool bx,.slice a1 n1 c1,.slice a2 n2 c2] 24)).alloc (.cells #[.bool by_,.slice a3 n3 c3,.slice a4 n4 c4] 24)) #[.bool false,.slice none 0 0,.slice none 0 0] 24;have g:Below w.heap.size w (((w.alloc (.cells #[.bool bx,.slice a1 n1 c1,.slice a2 n2 c2] 24)).alloc (.cells #[.bool by_,.slice a3 n3 c3,.slice a4 n4 c4] 24)).alloc (.cells #[.bool false,.slice none 0 0,.slice none 0 0] 24)):=(k1.trans (k2.mono (by simp))).trans (k3.mono (by simp;omega));have sz:((w.alloc (.cells #[.bool bx,.slice a1 n1 c1,.slice a2 n2 c2] 24)).alloc (.cells #[.bool by_,.slice a3 n3 c3,.slice a4 n4 c4] 24)).heap.size=w.heap.size+2:=by simp
 rw [sz] at R;have r0:=R.cell 0 rfl;have r1:=R.cell 1 rfl;have r2:=R.cell 2 rfl;have f0:=R.frozen 0;have f1:=R.frozen 1;have f2:=R.frozen 2;go_enter Tryz.func135,Tryz.ntmps135
 go_wp2_with fail
 clear k1 k2 k3;generalize hA:((w.alloc (.cells #[.bool bx,.slice a1 n1 c1,.slice a2 n2 c2] 24)).alloc (.cells #[.bool by_,.slice a3 n3 c3,.slice a4 n4 c4] 24)).alloc (.cells #[.bool false,.slice none 0 0,.slice none 0 0] 24)=v at *;clear hA;refine (hasNone_plus _ _).mono ?_;rintro e w1 ⟨rfl,hw⟩;obtain rfl:=hw.symm;have R3:=((R.put 0 (.bool false)).put 1 (.slice none 0 0)).put 2 (.slice none 0 0);have q0:=R3.cell 0 rfl;have q1:=R3.cell 1 rfl;have q2:=R3.cell 2 rfl;go_wp2
 refine bodyPost_ret (v:=.tuple #[.agg #[.bool false,.slice none 0 0,.slice none 0 0],.int .i64 0]) (by simp [results,Tryz.results135,go_sem,q0,q1,q2]) rfl ?_;exact ⟨rfl,Below.set3 g (by omega) _ _ _⟩
theorem numbered_ok:Calls Tryz.prog 192 #[.agg #[.bool bx,.slice a1 n1 c1,.slice a2 n2 c2],.int .i64 0] w fun e w'=>e=.returned (.tuple #[.agg #[.int .u8 1,.bool bx,.slice a1 n1 c1,.slice a2 n2 c2,.int .i32 0,.slice none 0 0],.int .i64 0])∧Below w.heap.size w w':=by
 have k1:=below_alloc w (.cells #[.bool bx,.slice a1 n1 c1,.slice a2 n2 c2] 24);have k2:=below_alloc (w.alloc (.cells #[.bool bx,.slice a1 n1 c1,.slice a2 n2 c2] 24)) (.cells #[.int .u8 0,.bool false,.slice none 0 0,.slice none 0 0,.int .i32 0,.slice none 0 0] 93);have Xb:=(boxA_new w #[.bool bx,.slice a1 n1 c1,.slice a2 n2 c2] 24).below k2 (by simp);have R:=boxA_new (w.alloc (.cells #[.bool bx,.slice a1 n1 c1,.slice a2 n2 c2] 24)) #[.int .u8 0,.bool false,.slice none 0 0,.slice none 0 0,.int .i32 0,.slice none 0 0] 93;rw [World.size_alloc] at R;have g:Below w.heap.size w ((w.alloc (.cells #[.bool bx,.slice a1 n1 c1,.slice a2 n2 c2] 24)).alloc (.cells #[.int .u8 0,.bool false,.slice none 0 0,.slice none 0 0,.int .i32 0,.slice none 0 0] 93)):=k1.trans (k2.mono (by simp));have x0:=Xb.cell 0 rfl;have x1:=Xb.cell 1 rfl;have x2:=Xb.cell 2 rfl;have r0:=R.cell 0 rfl;have r1:=R.cell 1 rfl;have r2:=R.cell 2 rfl;have r3:=R.cell 3 rfl;have r4:=R.cell 4 rfl;have r5:=R.cell 5 rfl;have f0:=R.frozen 0;have f1:=R.frozen 1;have f2:=R.frozen 2;have f3:=R.frozen 3;have f4:=R.frozen 4;have f5:=R.frozen 5;have R6:=R.set6 (.int .u8 1) (.bool bx) (.slice a1 n1 c1) (.slice a2 n2 c2) (.int .i32 0) (.slice none 0 0);have q0:=R6.cell 0 rfl;have q1:=R6.cell 1 rfl;have q2:=R6.cell 2 rfl;have q3:=R6.cell 3 rfl;have q4:=R6.cell 4 rfl;have q5:=R6.cell 5 rfl;have hb:(Instr.build 93 #[(0,.int .u8 1),(1,.agg #[.bool bx,.slice a1 n1 c1,.slice a2 n2 c2])]).run Tryz.prog ((w.alloc (.cells #[.bool bx,.slice a1 n1 c1,.slice a2 n2 c2] 24)).alloc (.cells #[.int .u8 0,.bool false,.slice none 0 0,.slice none 0 0,.int .i32 0,.slice none 0 0] 93))=.ok (.agg #[.int .u8 1,.bool bx,.slice a1 n1 c1,.slice a2 n2 c2,.int .i32 0,.slice none 0 0]) ((w.alloc (.cells #[.bool bx,.slice a1 n1 c1,.slice a2 n2 c2] 24)).alloc (.cells #[.int .u8 0,.bool false,.slice none 0 0,.slice none 0 0,.int .i32 0,.slice none 0 0] 93)):=by kernel_rfl
 clear k1 k2;go_enter Tryz.func192,Tryz.ntmps192;generalize hA:(w.alloc (.cells #[.bool bx,.slice a1 n1 c1,.slice a2 n2 c2] 24)).alloc (.cells #[.int .u8 0,.bool false,.slice none 0 0,.slice none 0 0,.int .i32 0,.slice none 0 0] 93)=v at *;go_wp2
 refine bodyPost_ret (v:=.tuple #[.agg #[.int .u8 1,.bool bx,.slice a1 n1 c1,.slice a2 n2 c2,.int .i32 0,.slice none 0 0],.int .i64 0]) (by simp [results,Tryz.results192,go_sem,q0,q1,q2,q3,q4,q5]) rfl ?_;exact ⟨rfl,Below.set6 g (by omega) _ _ _ _ _ _⟩
end
section
variable {w:World} {bx cy:Bool} {a1 a2 a3 a4:Option Addr} {xn xd yn yd:List Int} {c1 c2 c3 c4:Nat}
/-- Both are small: so is their sum. -/
theorem isSmall_plus {p q:Nat} {n1 n2 n3 n4:Nat} (h1:w.cell? ⟨p,1,none⟩=some (.slice a1 n1 c1)) (h2:w.cell? ⟨p,2,none⟩=some (.slice a2 n2 c2)) (h3:w.cell? ⟨q,1,none⟩=some (.slice a3 n3 c3)) (h4:w.cell? ⟨q,2,none⟩=some (.slice a4 n4 c4)) (hs:n1+n2+n3+n4<32) :
    Calls Tryz.prog 204 #[.int .i32 43,.pointer (some ⟨p,0,none⟩),.pointer (some ⟨q,0,none⟩)] w fun e w'=>e=.returned (.bool true)∧Below w.heap.size w w':=by
 have hs1:(n1:Int)+(n2:Int)+(n3:Int)+(n4:Int)<32:=by omega
 go_enter Tryz.func204,Tryz.ntmps204
 go_wp2_with fail
 go_quiet (fail)
 go_wp2
 go_ret
 exact ⟨rfl,below_drewN' (Below.refl _ _) _⟩
end
section
variable {w:World} {bx cy:Bool} {a1 a2 a3 a4:Option Addr} {xn xd yn yd:List Int} {c1 c2 c3 c4:Nat} {p:Nat} {F:Value} {cc kk:Int}
theorem plus_two (h1:Rd w.heap.size w (.slice a1 xn.length c1) xn) (h2:Rd w.heap.size w (.slice a2 xd.length c2) xd) (h3:Rd w.heap.size w (.slice a3 yn.length c3) yn) (h4:Rd w.heap.size w (.slice a4 yd.length c4) yd) :
    Calls Tryz.prog 86 #[.agg #[.bool bx,.slice a1 xn.length c1,.slice a2 xd.length c2],.agg #[.bool cy,.slice a3 yn.length c3,.slice a4 yd.length c4]] w fun e w'=>Gives w (RightP bx xn xd∧RightP cy yn yd) (sg bx (val xn)*val yd+sg cy (val yn)*val xd) (val xd*val yd) e w':=by
 obtain ⟨Xv,Yv,b0⟩:=nvar_in2 (bx:=bx) (cy:=cy) h1 h2 h3 h4;have k3:=below_alloc ((w.alloc (.cells #[.bool bx,.slice a1 xn.length c1,.slice a2 xd.length c2] 24)).alloc (.cells #[.bool cy,.slice a3 yn.length c3,.slice a4 yd.length c4] 24)) (.cells #[.bool false,.slice none 0 0,.slice none 0 0] 24);have R:=boxA_new ((w.alloc (.cells #[.bool bx,.slice a1 xn.length c1,.slice a2 xd.length c2] 24)).alloc (.cells #[.bool cy,.slice a3 yn.length c3,.slice a4 yd.length c4] 24)) #[.bool false,.slice none 0 0,.slice none 0 0] 24;have sz:((w.alloc (.cells #[.bool bx,.slice a1 xn.length c1,.slice a2 xd.length c2] 24)).alloc (.cells #[.bool cy,.slice a3 yn.length c3,.slice a4 yd.length c4] 24)).heap.size=w.heap.size+2:=by simp
 have Xw:=Xv.below k3;have Yw:=Yv.below k3;have g:Below w.heap.size w (((w.alloc (.cells #[.bool bx,.slice a1 xn.length c1,.slice a2 xd.length c2] 24)).alloc (.cells #[.bool cy,.slice a3 yn.length c3,.slice a4 yd.length c4] 24)).alloc (.cells #[.bool false,.slice none 0 0,.slice none 0 0] 24)):=b0.trans (k3.mono (by omega));rw [sz] at R;obtain ⟨T2,Xt,Yt,bt⟩:=nvar_two Xw Yw;obtain ⟨x0,x1,x2⟩:=Xw.cells;obtain ⟨y0,y1,y2⟩:=Yw.cells;have Rt:=R.below bt R.lt;have C:=add2 T2 Xt.rn Xt.rd Yt.rn Yt.rd (Nat.le_refl _);have s3:(((w.alloc (.cells #[.bool bx,.slice a1 xn.length c1,.slice a2 xd.length c2] 24)).alloc (.cells #[.bool cy,.slice a3 yn.length c3,.slice a4 yd.length c4] 24)).alloc (.cells #[.bool false,.slice none 0 0,.slice none 0 0] 24)).heap.size=w.heap.size+2+1:=by simp
 rw [s3] at C;clear k3 Xv Yv b0 h1 h2 h3 h4 T2 Xt Yt;go_enter Tryz.func86,Tryz.ntmps86
 go_wp2_with fail
 clear x0 x1 x2 y0 y1 y2 Xw Yw;generalize hA:((w.alloc (.cells #[.bool bx,.slice a1 xn.length c1,.slice a2 xd.length c2] 24)).alloc (.cells #[.bool cy,.slice a3 yn.length c3,.slice a4 yd.length c4] 24)).alloc (.cells #[.bool false,.slice none 0 0,.slice none 0 0] 24)=v at *;clear hA;generalize hB:v.alloc (.cells #[.bool bx,.slice a1 xn.length c1,.slice a2 xd.length c2,.bool cy,.slice a3 yn.length c3,.slice a4 yd.length c4] 24)=u at *;clear hB;have gu:Below w.heap.size w u:=g.trans (bt.mono g.size);have su:=bt.size;refine C.mono ?_;rintro e w1 ⟨k1,b,z1,m1,u1,z2,m2,u2,err,rfl,ho⟩;have R1:=Rt.below k1 Rt.lt;have lR:=R1.lt;have r0:=R1.cell 0 rfl;have r1:=R1.cell 1 rfl;have r2:=R1.cell 2 rfl;have f0:=R1.frozen 0;have f1:=R1.frozen 1;have f2:=R1.frozen 2;have R3:=((R1.put 0 (.bool b)).put 1 (.slice z1 m1 u1)).put 2 (.slice z2 m2 u2);have q0:=R3.cell 0 rfl;have q1:=R3.cell 1 rfl;have q2:=R3.cell 2 rfl;go_wp2
 refine bodyPost_ret (v:=.tuple #[.agg #[.bool b,.slice z1 m1 u1,.slice z2 m2 u2],.int .i64 err]) (by simp [results,Tryz.results86,go_sem,q0,q1,q2]) rfl ?_;refine ⟨Below.set3 (gu.trans (k1.mono gu.size)) (by omega) _ _ _,b,z1,m1,u1,z2,m2,u2,err,rfl,?_⟩;exact ho.out.turn (fun V xs hO=>((((hO.setCell (a:=⟨w.heap.size+2,0,none⟩) (fun e=>by have:=(hO.2.lt _ e).1;simp at this;omega) _).setCell (a:=⟨w.heap.size+2,1,none⟩) (fun e=>by have:=(hO.2.lt _ e).1;simp at this;omega) _).setCell (a:=⟨w.heap.size+2,2,none⟩) (fun e=>by have:=(hO.2.lt _ e).1;simp at this;omega) _).mono (by omega)))
theorem numbers_look (hp:p<w.heap.size) (q0:w.cell? ⟨p,0,none⟩=some (.int .i32 43)) (q2:w.cell? ⟨p,2,none⟩=some (.int .i64 cc)) (q3:w.cell? ⟨p,3,none⟩=some (.int .i64 kk)) (hk:kk<cc) (hs:xn.length+xd.length+yn.length+yd.length<32) :
    Calls Tryz.prog 193 #[.pointer (some ⟨p,0,none⟩),.agg #[.bool bx,.slice a1 xn.length c1,.slice a2 xd.length c2],.agg #[.bool cy,.slice a3 yn.length c3,.slice a4 yd.length c4]] w fun e w'=>e=.returned (.tuple #[.agg #[.bool false,.slice none 0 0,.slice none 0 0],.int .i64 0])∧Below w.heap.size w w':=by
 have k1:=below_alloc w (.cells #[.bool bx,.slice a1 xn.length c1,.slice a2 xd.length c2] 24);have k2:=below_alloc (w.alloc (.cells #[.bool bx,.slice a1 xn.length c1,.slice a2 xd.length c2] 24)) (.cells #[.bool cy,.slice a3 yn.length c3,.slice a4 yd.length c4] 24);have k3:=below_alloc ((w.alloc (.cells #[.bool bx,.slice a1 xn.length c1,.slice a2 xd.length c2] 24)).alloc (.cells #[.bool cy,.slice a3 yn.length c3,.slice a4 yd.length c4] 24)) (.cells #[.bool false,.slice none 0 0,.slice none 0 0] 24);have k23:Below (w.alloc (.cells #[.bool bx,.slice a1 xn.length c1,.slice a2 xd.length c2] 24)).heap.size (w.alloc (.cells #[.bool bx,.slice a1 xn.length c1,.slice a2 xd.length c2] 24)) (((w.alloc (.cells #[.bool bx,.slice a1 xn.length c1,.slice a2 xd.length c2] 24)).alloc (.cells #[.bool cy,.slice a3 yn.length c3,.slice a4 yd.length c4] 24)).alloc (.cells #[.bool false,.slice none 0 0,.slice none 0 0] 24)):=k2.trans (k3.mono (by simp));have X:=(boxA_new w #[.bool bx,.slice a1 xn.length c1,.slice a2 xd.length c2] 24).below k23 (by simp);have Y:=(boxA_new (w.alloc (.cells #[.bool bx,.slice a1 xn.length c1,.slice a2 xd.length c2] 24)) #[.bool cy,.slice a3 yn.length c3,.slice a4 yd.length c4] 24).below k3 (by simp);have R:=boxA_new ((w.alloc (.cells #[.bool bx,.slice a1 xn.length c1,.slice a2 xd.length c2] 24)).alloc (.cells #[.bool cy,.slice a3 yn.length c3,.slice a4 yd.length c4] 24)) #[.bool false,.slice none 0 0,.slice none 0 0] 24;rw [World.size_alloc] at Y;have sz:((w.alloc (.cells #[.bool bx,.slice a1 xn.length c1,.slice a2 xd.length c2] 24)).alloc (.cells #[.bool cy,.slice a3 yn.length c3,.slice a4 yd.length c4] 24)).heap.size=w.heap.size+1+1:=by simp
 rw [sz] at R;have g:Below w.heap.size w (((w.alloc (.cells #[.bool bx,.slice a1 xn.length c1,.slice a2 xd.length c2] 24)).alloc (.cells #[.bool cy,.slice a3 yn.length c3,.slice a4 yd.length c4] 24)).alloc (.cells #[.bool false,.slice none 0 0,.slice none 0 0] 24)):=(k1.trans (k2.mono (by simp))).trans (k3.mono (by simp;omega));have s3:(((w.alloc (.cells #[.bool bx,.slice a1 xn.length c1,.slice a2 xd.length c2] 24)).alloc (.cells #[.bool cy,.slice a3 yn.length c3,.slice a4 yd.length c4] 24)).alloc (.cells #[.bool false,.slice none 0 0,.slice none 0 0] 24)).heap.size=w.heap.size+1+1+1:=by simp
 have hcells:∀ {w':World},Below (((w.alloc (.cells #[.bool bx,.slice a1 xn.length c1,.slice a2 xd.length c2] 24)).alloc (.cells #[.bool cy,.slice a3 yn.length c3,.slice a4 yd.length c4] 24)).alloc (.cells #[.bool false,.slice none 0 0,.slice none 0 0] 24)).heap.size (((w.alloc (.cells #[.bool bx,.slice a1 xn.length c1,.slice a2 xd.length c2] 24)).alloc (.cells #[.bool cy,.slice a3 yn.length c3,.slice a4 yd.length c4] 24)).alloc (.cells #[.bool false,.slice none 0 0,.slice none 0 0] 24)) w'→w'.cell? ⟨p,0,none⟩=some (.int .i32 43)∧w'.cell? ⟨p,2,none⟩=some (.int .i64 cc)∧w'.cell? ⟨p,3,none⟩=some (.int .i64 kk)∧w'.cell? ⟨w.heap.size,0,none⟩=some (.bool bx)∧w'.cell? ⟨w.heap.size,1,none⟩=some (.slice a1 xn.length c1)∧w'.cell? ⟨w.heap.size,2,none⟩=some (.slice a2 xd.length c2)∧w'.cell? ⟨w.heap.size+1,0,none⟩=some (.bool cy)∧w'.cell? ⟨w.heap.size+1,1,none⟩=some (.slice a3 yn.length c3)∧w'.cell? ⟨w.heap.size+1,2,none⟩=some (.slice a4 yd.length c4):=fun k=>⟨((g.trans (k.mono (by omega))).cell (p:=⟨p,0,none⟩) hp).trans q0,((g.trans (k.mono (by omega))).cell (p:=⟨p,2,none⟩) hp).trans q2,((g.trans (k.mono (by omega))).cell (p:=⟨p,3,none⟩) hp).trans q3,(X.below k (by omega)).cell 0 rfl,(X.below k (by omega)).cell 1 rfl,(X.below k (by omega)).cell 2 rfl,(Y.below k (by omega)).cell 0 rfl,(Y.below k (by omega)).cell 1 rfl,(Y.below k (by omega)).cell 2 rfl⟩;have HC:Hid (∀ {w':World},Below (((w.alloc (.cells #[.bool bx,.slice a1 xn.length c1,.slice a2 xd.length c2] 24)).alloc (.cells #[.bool cy,.slice a3 yn.length c3,.slice a4 yd.length c4] 24)).alloc (.cells #[.bool false,.slice none 0 0,.slice none 0 0] 24)).heap.size (((w.alloc (.cells #[.bool bx,.slice a1 xn.length c1,.slice a2 xd.length c2] 24)).alloc (.cells #[.bool cy,.slice a3 yn.length c3,.slice a4 yd.length c4] 24)).alloc (.cells #[.bool false,.slice none 0 0,.slice none 0 0] 24)) w'→w'.cell? ⟨p,0,none⟩=some (.int .i32 43)∧w'.cell? ⟨p,2,none⟩=some (.int .i64 cc)∧w'.cell? ⟨p,3,none⟩=some (.int .i64 kk)∧w'.cell? ⟨w.heap.size,0,none⟩=some (.bool bx)∧w'.cell? ⟨w.heap.size,1,none⟩=some (.slice a1 xn.length c1)∧w'.cell? ⟨w.heap.size,2,none⟩=some (.slice a2 xd.length c2)∧w'.cell? ⟨w.heap.size+1,0,none⟩=some (.bool cy)∧w'.cell? ⟨w.heap.size+1,1,none⟩=some (.slice a3 yn.length c3)∧w'.cell? ⟨w.heap.size+1,2,none⟩=some (.slice a4 yd.length c4)):=hcells;clear hcells k1 k2 k3 k23 q0 q2 q3;go_enter Tryz.func193,Tryz.ntmps193
 go_upto_region 1 with fail
 generalize hA:((w.alloc (.cells #[.bool bx,.slice a1 xn.length c1,.slice a2 xd.length c2] 24)).alloc (.cells #[.bool cy,.slice a3 yn.length c3,.slice a4 yd.length c4] 24)).alloc (.cells #[.bool false,.slice none 0 0,.slice none 0 0] 24)=v at *;clear hA;have d0:Below v.heap.size v v.drew:=⟨rfl,rfl,rfl,Nat.le_refl _,fun _ _=>rfl⟩;have j0:=HC.out d0;have hgt:(kk<cc)=True:=by simp [hk]
 have K1:Hid (Calls Tryz.prog 204 #[.int .i32 43,.pointer (some ⟨w.heap.size,0,none⟩),.pointer (some ⟨w.heap.size+1,0,none⟩)] v.drew fun e w'=>e=.returned (.bool true)∧Below v.drew.heap.size v.drew w'):=isSmall_plus j0.2.2.2.2.1 j0.2.2.2.2.2.1 j0.2.2.2.2.2.2.2.1 j0.2.2.2.2.2.2.2.2 hs
 go_region_held3 (fun w'=>w'.cell? ⟨p,0,none⟩=some (.int .i32 43)∧w'.cell? ⟨p,2,none⟩=some (.int .i64 cc)∧w'.cell? ⟨p,3,none⟩=some (.int .i64 kk)∧w'.cell? ⟨w.heap.size,0,none⟩=some (.bool bx)∧w'.cell? ⟨w.heap.size,1,none⟩=some (.slice a1 xn.length c1)∧w'.cell? ⟨w.heap.size,2,none⟩=some (.slice a2 xd.length c2)∧w'.cell? ⟨w.heap.size+1,0,none⟩=some (.bool cy)∧w'.cell? ⟨w.heap.size+1,1,none⟩=some (.slice a3 yn.length c3)∧w'.cell? ⟨w.heap.size+1,2,none⟩=some (.slice a4 yd.length c4))
  (first | exact jj1 | exact j0)
  (first | (go_at_call 204;refine K1.out.mono ?_;rintro e w1 ⟨rfl,q1⟩;have kk1:Below v.heap.size v w1:=d0.trans (q1.mono d0.size);have jj1:=HC.out kk1))
 go_upto_region 2 with fail
 clear j0 K1;have d1:Below v.heap.size v w1.drew:=kk1.trans ⟨rfl,rfl,rfl,Nat.le_refl _,fun _ _=>rfl⟩;have j1:=HC.out d1;have s1:=kk1.size;have RW:∀ {w':World},Below v.heap.size v w'→BoxA w' (w.heap.size+1+1) 24 #[.bool false,.slice none 0 0,.slice none 0 0]:=fun k=>R.below k (by omega);have HRW:Hid (∀ {w':World},Below v.heap.size v w'→BoxA w' (w.heap.size+1+1) 24 #[.bool false,.slice none 0 0,.slice none 0 0]):=RW;clear RW;have K2:Hid (Calls Tryz.prog 135 #[.int .i32 43,.agg #[.bool bx,.slice a1 xn.length c1,.slice a2 xd.length c2],.agg #[.bool cy,.slice a3 yn.length c3,.slice a4 yd.length c4]] w1.drew fun e w'=>e=.returned (.tuple #[.agg #[.bool false,.slice none 0 0,.slice none 0 0],.int .i64 0])∧Below w1.drew.heap.size w1.drew w'):=unreck_plus;obtain ⟨e0,e1,e2,e3,e4,e5,e6,e7,e8⟩:=j1;obtain ⟨e0',e1',e2',e3',e4',e5',e6',e7',e8'⟩:=jj1
 first | go_region_with (go_at_call 135;refine K2.out.mono ?_;rintro e w2 ⟨rfl,q2⟩;have kk2:Below v.heap.size v w2:=d1.trans (q2.mono d1.size);have R2:=HRW.out kk2;have r0:=R2.cell 0 rfl;have r1:=R2.cell 1 rfl;have r2:=R2.cell 2 rfl;have f0:=R2.frozen 0;have f1:=R2.frozen 1;have f2:=R2.frozen 2) | fail
 all_goals
  have R3:=((R2.put 0 (.bool false)).put 1 (.slice none 0 0)).put 2 (.slice none 0 0);have q0:=R3.cell 0 rfl;have q1':=R3.cell 1 rfl;have q2':=R3.cell 2 rfl;go_wp2
  refine bodyPost_ret (v:=.tuple #[.agg #[.bool false,.slice none 0 0,.slice none 0 0],.int .i64 0]) (by simp [results,Tryz.results193,go_sem,q0,q1',q2']) rfl ?_;exact ⟨rfl,Below.set3 (g.trans (kk2.mono g.size)) (by omega) _ _ _⟩
end
/-- A number that is told, in blocks of its own. -/
def NumR (base:Nat) (T:Bool→List Int→List Int→Prop) (e:Ending) (w':World):Prop:=∃ b z1 ns u1 z2 ds u2,e=.returned (.tuple #[.agg #[.bool b,.slice z1 ns.length u1,.slice z2 ds.length u2],.int .i64 0])∧Own base w' (.slice z1 ns.length u1) ns∧Own base w' (.slice z2 ds.length u2) ds∧Hid (T b ns ds)
/-- The same as an item. -/
def ItemR (base:Nat) (T:Bool→List Int→List Int→Prop) (e:Ending) (w':World):Prop:=∃ b z1 ns u1 z2 ds u2,e=.returned (.tuple #[.agg #[.int .u8 1,.bool b,.slice z1 ns.length u1,.slice z2 ds.length u2,.int .i32 0,.slice none 0 0],.int .i64 0])∧Own base w' (.slice z1 ns.length u1) ns∧Own base w' (.slice z2 ds.length u2) ds∧Hid (T b ns ds)
/-- What numbers does with these two, from any world behind v. -/
def KNums (v:World) (p:Nat) (X Y:Value) (T:Bool→List Int→List Int→Prop):Prop:=Hid (∀ v',Below v.heap.size v v'→Calls Tryz.prog 193 #[.pointer (some ⟨p,0,none⟩),X,Y] v' fun e w'=>NumR v'.heap.size T e w'∧Below v'.heap.size v' w')
section
variable {w:World} {bx cy:Bool} {a1 a2 a3 a4:Option Addr} {xn xd yn yd:List Int} {c1 c2 c3 c4:Nat} {p gx ox gy oy:Nat} {T:Bool→List Int→List Int→Prop}
theorem items_num (lx:gx<w.heap.size) (ly:gy<w.heap.size) (hc:w.cell? ⟨gx,ox,none⟩=some (.int .u8 1)∧w.cell? ⟨gx,ox+1,none⟩=some (.bool bx)∧w.cell? ⟨gx,ox+2,none⟩=some (.slice a1 xn.length c1)∧w.cell? ⟨gx,ox+3,none⟩=some (.slice a2 xd.length c2)∧w.cell? ⟨gy,oy,none⟩=some (.int .u8 1)∧w.cell? ⟨gy,oy+1,none⟩=some (.bool cy)∧w.cell? ⟨gy,oy+2,none⟩=some (.slice a3 yn.length c3)∧w.cell? ⟨gy,oy+3,none⟩=some (.slice a4 yd.length c4)) (hK:KNums w p (.agg #[.bool bx,.slice a1 xn.length c1,.slice a2 xd.length c2]) (.agg #[.bool cy,.slice a3 yn.length c3,.slice a4 yd.length c4]) T) :
    Calls Tryz.prog 168 #[.pointer (some ⟨p,0,none⟩),.pointer (some ⟨gx,ox,none⟩),.pointer (some ⟨gy,oy,none⟩)] w fun e w'=>ItemR w.heap.size T e w'∧Below w.heap.size w w':=by
 have k1:=below_alloc w (.cells #[.int .u8 0,.bool false,.slice none 0 0,.slice none 0 0,.int .i32 0,.slice none 0 0] 93);have R:=boxA_new w #[.int .u8 0,.bool false,.slice none 0 0,.slice none 0 0,.int .i32 0,.slice none 0 0] 93;have lR:=R.lt;have HC:Hid (∀ {w':World},Below (w.alloc (.cells #[.int .u8 0,.bool false,.slice none 0 0,.slice none 0 0,.int .i32 0,.slice none 0 0] 93)).heap.size (w.alloc (.cells #[.int .u8 0,.bool false,.slice none 0 0,.slice none 0 0,.int .i32 0,.slice none 0 0] 93)) w'→w'.cell? ⟨gx,ox,none⟩=some (.int .u8 1)∧w'.cell? ⟨gx,ox+1,none⟩=some (.bool bx)∧w'.cell? ⟨gx,ox+2,none⟩=some (.slice a1 xn.length c1)∧w'.cell? ⟨gx,ox+3,none⟩=some (.slice a2 xd.length c2)∧w'.cell? ⟨gy,oy,none⟩=some (.int .u8 1)∧w'.cell? ⟨gy,oy+1,none⟩=some (.bool cy)∧w'.cell? ⟨gy,oy+2,none⟩=some (.slice a3 yn.length c3)∧w'.cell? ⟨gy,oy+3,none⟩=some (.slice a4 yd.length c4)):=fun k=>⟨((k1.trans (k.mono (by omega))).cell (p:=⟨gx,ox,none⟩) lx).trans hc.1,((k1.trans (k.mono (by omega))).cell (p:=⟨gx,ox+1,none⟩) lx).trans hc.2.1,((k1.trans (k.mono (by omega))).cell (p:=⟨gx,ox+2,none⟩) lx).trans hc.2.2.1,((k1.trans (k.mono (by omega))).cell (p:=⟨gx,ox+3,none⟩) lx).trans hc.2.2.2.1,((k1.trans (k.mono (by omega))).cell (p:=⟨gy,oy,none⟩) ly).trans hc.2.2.2.2.1,((k1.trans (k.mono (by omega))).cell (p:=⟨gy,oy+1,none⟩) ly).trans hc.2.2.2.2.2.1,((k1.trans (k.mono (by omega))).cell (p:=⟨gy,oy+2,none⟩) ly).trans hc.2.2.2.2.2.2.1,((k1.trans (k.mono (by omega))).cell (p:=⟨gy,oy+3,none⟩) ly).trans hc.2.2.2.2.2.2.2⟩;obtain ⟨i0,_,_,_,i4,_,_,_⟩:=HC.out (Below.refl _ _);go_enter Tryz.func168,Tryz.ntmps168;clear hc
 go_upto_region 4 with fail
 clear i0 i4;generalize hA:w.alloc (.cells #[.int .u8 0,.bool false,.slice none 0 0,.slice none 0 0,.int .i32 0,.slice none 0 0] 93)=v at *;clear hA;have d1:Below v.heap.size v v.drew:=⟨rfl,rfl,rfl,Nat.le_refl _,fun _ _=>rfl⟩;obtain ⟨e0,e1,e2,e3,e4,e5,e6,e7⟩:=HC.out d1;obtain ⟨e0',e1',e2',e3',e4',e5',e6',e7'⟩:=HC.out (Below.refl _ v);have HRW:Hid (∀ {w':World},Below v.heap.size v w'→BoxA w' w.heap.size 93 #[.int .u8 0,.bool false,.slice none 0 0,.slice none 0 0,.int .i32 0,.slice none 0 0]):=fun k=>R.below k lR;have K1:Hid (Calls Tryz.prog 193 #[.pointer (some ⟨p,0,none⟩),.agg #[.bool bx,.slice a1 xn.length c1,.slice a2 xd.length c2],.agg #[.bool cy,.slice a3 yn.length c3,.slice a4 yd.length c4]] v.drew fun e w'=>NumR v.drew.heap.size T e w'∧Below v.drew.heap.size v.drew w'):=hK.out v.drew (k1.trans (d1.mono k1.size));have sv:=k1.size
 first | go_region_with (first | (go_at_call 193;refine K1.out.mono ?_;rintro e w2 ⟨⟨b,z1,ns,u1,z2,ds,u2,rfl,ho1,ho2,hT⟩,q2⟩;have kk2:Below v.heap.size v w2:=d1.trans (q2.mono d1.size)) | (have kk2':=kk2;go_at_call 192;refine numbered_ok.mono ?_;rintro e w3 ⟨rfl,q3⟩;have kk3:Below v.heap.size v w3:=kk2.trans (q3.mono kk2.size);have R2:=HRW.out kk3;have r0:=R2.cell 0 rfl;have r1:=R2.cell 1 rfl;have r2:=R2.cell 2 rfl;have r3:=R2.cell 3 rfl;have r4:=R2.cell 4 rfl;have r5:=R2.cell 5 rfl;have f0:=R2.frozen 0;have f1:=R2.frozen 1;have f2:=R2.frozen 2;have f3:=R2.frozen 3;have f4:=R2.frozen 4;have f5:=R2.frozen 5)) | fail
 all_goals
  have R6:=R2.set6 (.int .u8 1) (.bool b) (.slice z1 ns.length u1) (.slice z2 ds.length u2) (.int .i32 0) (.slice none 0 0);have y0:=R6.cell 0 rfl;have y1:=R6.cell 1 rfl;have y2:=R6.cell 2 rfl;have y3:=R6.cell 3 rfl;have y4:=R6.cell 4 rfl;have y5:=R6.cell 5 rfl;go_wp2
  refine bodyPost_ret (v:=.tuple #[.agg #[.int .u8 1,.bool b,.slice z1 ns.length u1,.slice z2 ds.length u2,.int .i32 0,.slice none 0 0],.int .i64 0]) (by simp [results,Tryz.results168,go_sem,y0,y1,y2,y3,y4,y5]) rfl ?_;refine ⟨⟨b,z1,ns,u1,z2,ds,u2,rfl,?_,?_,hT⟩,Below.set6 (k1.trans (kk3.mono k1.size)) (Nat.le_refl _) _ _ _ _ _ _⟩
  · exact ((ho1.below q3 (Nat.le_refl _)).set6 (B:=w.heap.size) (by have:v.drew.heap.size=v.heap.size:=rfl;omega) _ _ _ _ _ _).mono (by have:v.drew.heap.size=v.heap.size:=rfl;omega)
  · exact ((ho2.below q3 (Nat.le_refl _)).set6 (B:=w.heap.size) (by have:v.drew.heap.size=v.heap.size:=rfl;omega) _ _ _ _ _ _).mono (by have:v.drew.heap.size=v.heap.size:=rfl;omega)
end
end Go.Proofs.YtilbfkabfgnhpaaGreat
