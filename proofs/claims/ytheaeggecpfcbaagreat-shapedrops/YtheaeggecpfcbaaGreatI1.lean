/- array.Make, where it makes none. -/
import Derived.Test.YtheaeggecpfcbaaGreatK12
import Derived.Test.YtheaeggecpfcbaaGreatKB
set_option maxRecDepth 100000
set_option maxHeartbeats 16000000
set_option linter.unusedVariables false
set_option linter.unusedSimpArgs false
namespace Go.Proofs.YtheaeggecpfcbaaGreat
open Go.RowKit
section
variable {w:World} {f:Nat} {D:Nat→Prop} {x1 a2:Option Addr} {y1 c2 N:Nat} {sh:List Int} {l:List Tr}
theorem make_size (hsh:RdN D w (.slice x1 sh.length y1) sh) (hR:RowB D l.length (.slice a2 l.length c2) (fun g o j=>ItC (ArV f D w) D w g (o+j*6) (l.getD j tr0))) (hD:∀ g,D g→g<w.heap.size) (hE:(sizeF sh).2≠0) :
    Calls Tryz.prog 8 #[.slice x1 sh.length y1,.slice a2 l.length c2] w fun e w'=>∃ k:Int,k≠0∧e=.returned (.tuple #[.agg #[.slice none 0 0,.slice none 0 0],.int .i64 k])∧Below w.heap.size w w':=by
 have hin:=sizeF_in sh;have R:=boxA_new w #[.slice none 0 0,.slice none 0 0] 25;have g:=below_alloc w (.cells #[.slice none 0 0,.slice none 0 0] 25);have s0:w.heap.size<(w.alloc (.cells #[.slice none 0 0,.slice none 0 0] 25)).heap.size:=by simp
 have HSh:Hid (RdN D w (.slice x1 sh.length y1) sh):=hsh;have HR:Hid (RowB D l.length (.slice a2 l.length c2) (fun g o j=>ItC (ArV f D w) D w g (o+j*6) (l.getD j tr0))):=hR;have HD:Hid (∀ g,D g→g<w.heap.size):=hD;obtain ⟨s1,hs1⟩:∃ s1,(sizeF sh).1=s1:=⟨_,rfl⟩;obtain ⟨s2,hs2⟩:∃ s2,(sizeF sh).2=s2:=⟨_,rfl⟩;have HNe:Hid (sizeF sh=(s1,s2)):=by unfold Hid;exact Prod.ext hs1 hs2
 rw [hs2] at hE;have hb:(s2==0)=false:=by rw [beq_eq_false_iff_ne];exact hE
 obtain ⟨ln,hln⟩:∃ ln,l.length=ln:=⟨_,rfl⟩;clear hsh hR hD hin hs1 hs2;rw [hln];clear hln;go_enter Tryz.func8,Tryz.ntmps8
 go_wp2_with fail
 generalize hA:w.alloc (.cells #[.slice none 0 0,.slice none 0 0] 25)=v at *;clear hA;refine (arrSize_any (HSh.out.imp (fun _ h=>h) (Agree.of g HD.out)) (fun g' hg=>by have:=HD.out g' hg;omega)).mono ?_;rintro e w1 ⟨rfl,hw⟩;obtain rfl:=hw.symm;rw [HNe.out];simp only [];have gw4:=g;have R3:=R;have q0:=R3.cell 0 rfl;have q1:=R3.cell 1 rfl;have f0:=R3.frozen 0;have f1:=R3.frozen 1;go_wp2
 have R4:=R3.set2 (.slice none 0 0) (.slice none 0 0);have r0:=R4.cell 0 rfl;have r1:=R4.cell 1 rfl;exact bodyPost_ret (v:=.tuple #[.agg #[.slice none 0 0,.slice none 0 0],.int .i64 s2]) (by simp [results,Tryz.results8,go_sem,r0,r1]) rfl ⟨s2,hE,rfl,Below.set2 gw4 (Nat.le_refl _) _ _⟩
theorem make_form (hsh:RdN D w (.slice x1 sh.length y1) sh) (hR:RowB D l.length (.slice a2 l.length c2) (fun g o j=>ItC (ArV f D w) D w g (o+j*6) (l.getD j tr0))) (hD:∀ g,D g→g<w.heap.size) (hs:l.length*96≤140737488355328)
    (hE:(sizeF sh).2=0) (hN:(sizeF sh).1=(N:Int)) (hno:(∀ t∈l,(measI (measF 16) t).isSome=true)→l.length=0) :
    Calls Tryz.prog 8 #[.slice x1 sh.length y1,.slice a2 l.length c2] w fun e w'=>∃ k:Int,k≠0∧e=.returned (.tuple #[.agg #[.slice none 0 0,.slice none 0 0],.int .i64 k])∧Below w.heap.size w w':=by
 have hin:=sizeF_in sh;have R:=boxA_new w #[.slice none 0 0,.slice none 0 0] 25;have g:=below_alloc w (.cells #[.slice none 0 0,.slice none 0 0] 25);have s0:w.heap.size<(w.alloc (.cells #[.slice none 0 0,.slice none 0 0] 25)).heap.size:=by simp
 have HSh:Hid (RdN D w (.slice x1 sh.length y1) sh):=hsh;have HR:Hid (RowB D l.length (.slice a2 l.length c2) (fun g o j=>ItC (ArV f D w) D w g (o+j*6) (l.getD j tr0))):=hR;have HD:Hid (∀ g,D g→g<w.heap.size):=hD;have HNo:Hid ((∀ t∈l,(measI (measF 16) t).isSome=true)→l.length=0):=hno;have hrk:=size_rank hE;have HRk:Hid (sh.length≤8):=hrk;have hRw:∀ {w':World},Below w.heap.size w w'→RowB D l.length (.slice a2 l.length c2) (fun g o j=>ItC (ArV f D w') D w' g (o+j*6) (l.getD j tr0)):=fun k=>RowB.imp HR.out (fun _ h=>h) (fun g' o j hg hj hc=>hc.imp hg (fun _ h=>h) (Agree.of k HD.out) (fun _ _ _ h=>h.agree (Agree.of k HD.out)));have HRw:Hid (∀ {w':World},Below w.heap.size w w'→RowB D l.length (.slice a2 l.length c2) (fun g o j=>ItC (ArV f D w') D w' g (o+j*6) (l.getD j tr0))):=hRw;have HNe:Hid (sizeF sh=((N:Int),0)):=by unfold Hid;exact Prod.ext hN hE
 obtain ⟨ln,hln⟩:∃ ln,l.length=ln:=⟨_,rfl⟩;have HLn:Hid (l.length=ln):=hln;have hs2:ln*96≤140737488355328:=by omega
 have HS1:Hid (l.length*96≤140737488355328):=hs;clear hsh hR hD hno hE hN hRw hrk hs;rw [hln];clear hln;go_enter Tryz.func8,Tryz.ntmps8
 go_wp2_with fail
 generalize hA:w.alloc (.cells #[.slice none 0 0,.slice none 0 0] 25)=v at *;clear hA;refine (arrSize_any (HSh.out.imp (fun _ h=>h) (Agree.of g HD.out)) (fun g' hg=>by have:=HD.out g' hg;omega)).mono ?_;rintro e w1 ⟨rfl,hw⟩;obtain rfl:=hw.symm;rw [HNe.out];simp only [];have C1:=measItems_any (HRw.out g) (fun g' hg=>by have:=HD.out g' hg;omega) HS1.out;rw [HLn.out] at C1
 go_wp2_with fail
 refine C1.mono ?_;rintro e w2 ⟨hcase,k2⟩;clear C1;have gw2:Below w.heap.size w w2:=g.trans (k2.mono (by omega));have R3:=R.below k2 s0;have q0:=R3.cell 0 rfl;have q1:=R3.cell 1 rfl;have f0:=R3.frozen 0;have f1:=R3.frozen 1;rcases hcase with ⟨hy,a3,c3,rfl,hM⟩ | ⟨hn,rfl⟩
 · have h0:=HNo.out hy
   rw [HLn.out] at h0;subst h0;clear hM hy;go_wp2
   have R4:=R3.set2 (.slice none 0 0) (.slice none 0 0);have r0:=R4.cell 0 rfl;have r1:=R4.cell 1 rfl;exact bodyPost_ret (v:=.tuple #[.agg #[.slice none 0 0,.slice none 0 0],.int .i64 22]) (by simp [results,Tryz.results8,go_sem,r0,r1]) rfl ⟨22,by decide,rfl,Below.set2 gw2 (Nat.le_refl _) _ _⟩
 · clear hn
   go_wp2
   have R4:=R3.set2 (.slice none 0 0) (.slice none 0 0);have r0:=R4.cell 0 rfl;have r1:=R4.cell 1 rfl;exact bodyPost_ret (v:=.tuple #[.agg #[.slice none 0 0,.slice none 0 0],.int .i64 22]) (by simp [results,Tryz.results8,go_sem,r0,r1]) rfl ⟨22,by decide,rfl,Below.set2 gw2 (Nat.le_refl _) _ _⟩
theorem make_limit (hsh:RdN D w (.slice x1 sh.length y1) sh) (hR:RowB D l.length (.slice a2 l.length c2) (fun g o j=>ItC (ArV f D w) D w g (o+j*6) (l.getD j tr0))) (hD:∀ g,D g→g<w.heap.size) (hL:0<l.length) (hs:l.length*96≤140737488355328)
    (hE:(sizeF sh).2=0) (hN:(sizeF sh).1=(N:Int)) (hN1:1≤N) (hall:∀ t∈l,(measI (measF 16) t).isSome=true) (hlim:¬ ((togF (cyc (0,0) (msOf l) N)).1≤16∧(togF (cyc (0,0) (msOf l) N)).2≤16384)) :
    Calls Tryz.prog 8 #[.slice x1 sh.length y1,.slice a2 l.length c2] w fun e w'=>∃ k:Int,k≠0∧e=.returned (.tuple #[.agg #[.slice none 0 0,.slice none 0 0],.int .i64 k])∧Below w.heap.size w w':=by
 have hin:=sizeF_in sh;have hN4:N≤4096:=by omega
 have R:=boxA_new w #[.slice none 0 0,.slice none 0 0] 25;have g:=below_alloc w (.cells #[.slice none 0 0,.slice none 0 0] 25);have s0:w.heap.size<(w.alloc (.cells #[.slice none 0 0,.slice none 0 0] 25)).heap.size:=by simp
 have HSh:Hid (RdN D w (.slice x1 sh.length y1) sh):=hsh;have HR:Hid (RowB D l.length (.slice a2 l.length c2) (fun g o j=>ItC (ArV f D w) D w g (o+j*6) (l.getD j tr0))):=hR;have HD:Hid (∀ g,D g→g<w.heap.size):=hD;have HAll:Hid (∀ t∈l,(measI (measF 16) t).isSome=true):=hall;have HL:Hid (0<l.length):=hL;have hrk:=size_rank hE;have HRk:Hid (sh.length≤8):=hrk;have hml:((msOf l).length)=l.length:=msOf_len l;obtain ⟨dp,hdpe⟩:∃ dp,(togF (cyc (0,0) (msOf l) N)).1=dp:=⟨_,rfl⟩;obtain ⟨cl,hcle⟩:∃ cl,(togF (cyc (0,0) (msOf l) N)).2=cl:=⟨_,rfl⟩;have HDp:Hid ((togF (cyc (0,0) (msOf l) N)).1=dp):=hdpe;have HCl:Hid ((togF (cyc (0,0) (msOf l) N)).2=cl):=hcle;rw [hdpe,hcle] at hlim;have hRw:∀ {w':World},Below w.heap.size w w'→RowB D l.length (.slice a2 l.length c2) (fun g o j=>ItC (ArV f D w') D w' g (o+j*6) (l.getD j tr0)):=fun k=>RowB.imp HR.out (fun _ h=>h) (fun g' o j hg hj hc=>hc.imp hg (fun _ h=>h) (Agree.of k HD.out) (fun _ _ _ h=>h.agree (Agree.of k HD.out)));have HRw:Hid (∀ {w':World},Below w.heap.size w w'→RowB D l.length (.slice a2 l.length c2) (fun g o j=>ItC (ArV f D w') D w' g (o+j*6) (l.getD j tr0))):=hRw;have HNe:Hid (sizeF sh=((N:Int),0)):=by unfold Hid;exact Prod.ext hN hE
 obtain ⟨ln,hln⟩:∃ ln,l.length=ln:=⟨_,rfl⟩;have HLn:Hid (l.length=ln):=hln;have hl0:(((ln:Nat):Int)==0)=false:=by rw [beq_eq_false_iff_ne];omega
 have hn0:(((N:Nat):Int)==0)=false:=by rw [beq_eq_false_iff_ne];omega
 have hs2:ln*96≤140737488355328:=by omega
 have HS1:Hid (l.length*96≤140737488355328):=hs;clear hsh hR hD hall hE hN hRw hL hrk hml hdpe hcle hs;rw [hln];clear hln;go_enter Tryz.func8,Tryz.ntmps8
 go_wp2_with fail
 generalize hA:w.alloc (.cells #[.slice none 0 0,.slice none 0 0] 25)=v at *;clear hA;refine (arrSize_any (HSh.out.imp (fun _ h=>h) (Agree.of g HD.out)) (fun g' hg=>by have:=HD.out g' hg;omega)).mono ?_;rintro e w1 ⟨rfl,hw⟩;obtain rfl:=hw.symm;rw [HNe.out];simp only [];have C1:=measItems_any (HRw.out g) (fun g' hg=>by have:=HD.out g' hg;omega) HS1.out;rw [HLn.out] at C1
 go_wp2_with fail
 refine C1.mono ?_;rintro e w2 ⟨hcase,k2⟩;clear C1;rcases hcase with ⟨_,a3,c3,rfl,hM⟩ | ⟨hno,_⟩
 case inr=>exact absurd HAll.out hno
 have HM:Hid (RowM (Fr v.heap.size w2.heap.size) w2 (.slice a3 ln c3) (msOf l)):=hM;clear hM;have s2:=k2.size;have gw2:Below w.heap.size w w2:=g.trans (k2.mono (by omega))
 go_wp2_with fail
 refine overM_any.mono ?_;rintro e w3 ⟨rfl,hw3⟩;have B1:=(boxA_new w2 #[.slice a3 ln c3] 50).below (below_alloc (w2.alloc (.cells #[.slice a3 ln c3] 50)) (.cells #[.int .i64 N] 3)) (by simp);have B2:=boxA_new (w2.alloc (.cells #[.slice a3 ln c3] 50)) #[.int .i64 N] 3;rw [World.size_alloc] at B2;have k3:Below w2.heap.size w2 w3:=by rw [hw3];exact (below_alloc w2 _).trans ((below_alloc _ _).mono (by simp))
 have sz3:w3.heap.size=w2.heap.size+1+1:=by rw [hw3];simp
 rw [← hw3] at B1 B2;clear hw3;have gw3:Below w.heap.size w w3:=gw2.trans (k3.mono (by omega));have C2:=together_any (w:=w3) (gf:=46) (lb:=#[.pointer (some ⟨w2.heap.size+1,0,none⟩),.pointer (some ⟨w2.heap.size,0,none⟩)]) (ms:=cyc (0,0) (msOf l) N)
  (Gd:=fun pre x W=>pre++[x] <+: cyc (0,0) (msOf l) N∧Below w3.heap.size w3 W) (Sx:=fun xs W=>xs=cyc (0,0) (msOf l) N∧Below w3.heap.size w3 W)
  (enters_of Tryz.func46 (by kernel_rfl) rfl)
  (overM_pays (w:=w3) (D:=Fr v.heap.size w2.heap.size) (a2:=a3) (c2:=c3) (L:=msOf l) (N:=N) (n₀:=w3.heap.size) 5 (by omega) (by rw [msOf_len];exact HL.out) hN4 (by omega) (by omega) (Nat.le_refl _) B2 (by rw [msOf_len,HLn.out];exact B1) (by rw [msOf_len,HLn.out];exact HM.out.agree (fun q hq=>k3.block q hq.2)) (fun q hq=>by have:=hq.2;omega))
  (fun s A B row h hg hrow=>⟨h.1,h.2.grown hg h.2.size (fun k e=>(hrow k e).1)⟩)
  (fun x hx=>msOf_in l x (cyc_mem (by rw [msOf_len];exact HL.out) x hx)) (by rw [cyc_len];exact hN4) (fun _ _ _ h=>h.1) (fun _ _ h=>h.1)
 rw [HDp.out,HCl.out] at C2
 go_wp2_with fail
 refine C2.mono ?_;rintro e w4 ⟨rfl,k4⟩;clear C2 B1 B2;have s4:=k4.size;have gw4:Below w.heap.size w w4:=gw3.trans (k4.mono (by have:=gw3.size;omega));have gv4:Below v.heap.size v w4:=(k2.trans (k3.mono s2)).trans (k4.mono (by omega));have BM:=boxA_new w4 #[.int .i64 dp,.int .i64 cl] 55;have kM:=below_alloc w4 (.cells #[.int .i64 dp,.int .i64 cl] 55);have n0:=BM.cell 0 rfl;have n1:=BM.cell 1 rfl;have gw5:Below w.heap.size w (w4.alloc (.cells #[.int .i64 dp,.int .i64 cl] 55)):=gw4.trans (kM.mono (by have:=gw4.size;omega));have gv5:Below v.heap.size v (w4.alloc (.cells #[.int .i64 dp,.int .i64 cl] 55)):=gv4.trans (kM.mono (by omega));have R3:=R.below gv5 s0;have q0:=R3.cell 0 rfl;have q1:=R3.cell 1 rfl;have f0:=R3.frozen 0;have f1:=R3.frozen 1;by_cases hd:dp≤16
 · have hc:¬ cl≤16384:=fun h=>hlim ⟨hd,h⟩
   have hg1:¬ (16:Int)<dp:=by omega
   have hg2:(16384:Int)<cl:=by omega
   have hg3:cl > 16384:=by omega
   have hg4:¬ dp > 16:=by omega
   clear hlim;go_wp2
   have R4:=R3.set2 (.slice none 0 0) (.slice none 0 0);have r0:=R4.cell 0 rfl;have r1:=R4.cell 1 rfl;exact bodyPost_ret (v:=.tuple #[.agg #[.slice none 0 0,.slice none 0 0],.int .i64 8]) (by simp [results,Tryz.results8,go_sem,r0,r1]) rfl ⟨8,by decide,rfl,Below.set2 gw5 (Nat.le_refl _) _ _⟩
 · have hg1:(16:Int)<dp:=by omega
   have hg4:dp > 16:=by omega
   clear hlim;go_wp2
   have R4:=R3.set2 (.slice none 0 0) (.slice none 0 0);have r0:=R4.cell 0 rfl;have r1:=R4.cell 1 rfl;exact bodyPost_ret (v:=.tuple #[.agg #[.slice none 0 0,.slice none 0 0],.int .i64 8]) (by simp [results,Tryz.results8,go_sem,r0,r1]) rfl ⟨8,by decide,rfl,Below.set2 gw5 (Nat.le_refl _) _ _⟩
end
section
variable {w:World} {f:Nat} {D:Nat→Prop} {a2:Option Addr} {c2 N Bn Bs:Nat} {l l':List Tr}
theorem eachOverT (hB1:BoxA w Bn 3 #[.int .i64 N]) (hB2:BoxA w Bs 22 #[.slice a2 l.length c2]) (hR:RowB D l.length (.slice a2 l.length c2) (fun g o j=>ItC (ArV f D w) D w g (o+j*6) (l.getD j tr0))) (hD:∀ g,D g→g<w.heap.size) (hL:0<l.length) (hN:N≤4096) (hl:l'.length=l.length) (hwk:WorkT f D l l') :
    Calls Tryz.prog 24 #[.func (.func 20) #[] #[],.func (.func 47) #[] #[.pointer (some ⟨Bn,0,none⟩),.pointer (some ⟨Bs,0,none⟩)]] w fun e w'=>∃ a c,e=.returned (.slice a N c)∧RowB (Fr w.heap.size w'.heap.size) N (.slice a N c) (fun g o j=>ItC (ArV f (Fr w.heap.size w'.heap.size) w') (Fr w.heap.size w'.heap.size) w' g (o+j*6) ((cyc tr0 l' N).getD j tr0))∧Below w.heap.size w w':=by
 obtain ⟨L,hLn,hRL,hI⟩:=row_iv hR;have hcl:(cyc tr0 l' N).length=N:=cyc_len _ _ _;have hp:=overI_pays (w:=w) (D:=D) (a2:=a2) (c2:=c2) (L:=L) (N:=N) (Bn:=Bn) (Bs:=Bs) (n₀:=w.heap.size) 5 (by omega) (by omega) hN hB1.lt hB2.lt (Nat.le_refl _) hB1 (by rw [hLn];exact hB2) (by rw [← hLn] at hRL;exact hRL) hD;refine (eachT_any (f:=f) (ts:=cyc tr0 l' N) (enters_of Tryz.func47 (by kernel_rfl) rfl) hp ?_ ?_ ?_ ?_ (by omega) ?_).mono ?_
 · rintro s A B row ⟨h1,h2⟩ hg hrow
   exact ⟨h1,h2.grown hg h2.size (fun k e=>(hrow k e).1)⟩
 · rintro pre x _ A B row ⟨h1,h2⟩ hg hrow
   exact ⟨h1,h2.grown hg h2.size (fun k e=>(hrow k e).1)⟩
 · rintro pre x W ⟨h1,_⟩
   have:=(pre_next (d:=iv0) h1).1;rw [cyc_len] at this ⊢;exact this
 · rintro xs W ⟨h1,_⟩
   rw [h1,cyc_len,cyc_len]
 · rintro pre x W ⟨h1,h2⟩
   obtain ⟨h3,h4⟩:=pre_next (d:=iv0) h1;rw [cyc_len] at h3;rw [cyc_get h3] at h4;rw [cyc_get h3,hl];rw [hLn] at h4;have hm:pre.length % l.length<l.length:=Nat.mod_lt _ hL;have hi:=(hI (pre.length % l.length) hm).agree (Agree.of h2 hD);rw [← h4] at hi;exact hwk (pre.length % l.length) x W hm hi (fun g hg=>Nat.lt_of_lt_of_le (hD g hg) h2.size)
 · rintro e w' ⟨a,c,rfl,h1,h2⟩
   rw [hcl] at h1;exact ⟨a,c,by rw [hcl],h1,h2⟩
end
section
variable {w:World} {f:Nat} {D:Nat→Prop} {x1 a2:Option Addr} {y1 c2:Nat} {sh:List Int} {l:List Tr}
theorem make_none (hsh:RdN D w (.slice x1 sh.length y1) sh) (hR:RowB D l.length (.slice a2 l.length c2) (fun g o j=>ItC (ArV f D w) D w g (o+j*6) (l.getD j tr0))) (hD:∀ g,D g→g<w.heap.size) (hL:0<l.length) (hs:l.length*96≤140737488355328)
    (hE:(sizeF sh).2=0) (hN:(sizeF sh).1=0) (hall:∀ t∈l,(measI (measF 16) t).isSome=true) (hdp:(togF (cyc (0,0) (msOf l) 1)).1≤16) (hcl:(togF (cyc (0,0) (msOf l) 1)).2≤16384) :
    Calls Tryz.prog 8 #[.slice x1 sh.length y1,.slice a2 l.length c2] w fun e w'=>∃ z1 u1 z2 u2,e=.returned (.tuple #[.agg #[.slice z1 sh.length u1,.slice z2 1 u2],.int .i64 0])∧ArV (f+1) (Fr w.heap.size w'.heap.size) w' (.slice z1 sh.length u1) (.slice z2 1 u2) (arrT sh (cyc tr0 (l.map tyI) 1))∧Below w.heap.size w w':=by
 have hin:=sizeF_in sh;have R:=boxA_new w #[.slice none 0 0,.slice none 0 0] 25;have g:=below_alloc w (.cells #[.slice none 0 0,.slice none 0 0] 25);have s0:w.heap.size<(w.alloc (.cells #[.slice none 0 0,.slice none 0 0] 25)).heap.size:=by simp
 have HSh:Hid (RdN D w (.slice x1 sh.length y1) sh):=hsh;have HR:Hid (RowB D l.length (.slice a2 l.length c2) (fun g o j=>ItC (ArV f D w) D w g (o+j*6) (l.getD j tr0))):=hR;have HD:Hid (∀ g,D g→g<w.heap.size):=hD;have HAll:Hid (∀ t∈l,(measI (measF 16) t).isSome=true):=hall;have HL:Hid (0<l.length):=hL;have hrk:=size_rank hE;have HRk:Hid (sh.length≤8):=hrk;have hml:((msOf l).length)=l.length:=msOf_len l;obtain ⟨dp,hdpe⟩:∃ dp,(togF (cyc (0,0) (msOf l) 1)).1=dp:=⟨_,rfl⟩;obtain ⟨cl,hcle⟩:∃ cl,(togF (cyc (0,0) (msOf l) 1)).2=cl:=⟨_,rfl⟩;have HDp:Hid ((togF (cyc (0,0) (msOf l) 1)).1=dp):=hdpe;have HCl:Hid ((togF (cyc (0,0) (msOf l) 1)).2=cl):=hcle;rw [hdpe] at hdp;rw [hcle] at hcl;have hg1:¬ dp > 16:=by omega
 have hg2:¬ cl > 16384:=by omega
 have hg3:¬ (16:Int)<dp:=by omega
 have hg4:¬ (16384:Int)<cl:=by omega
 have hRw:∀ {w':World},Below w.heap.size w w'→RowB D l.length (.slice a2 l.length c2) (fun g o j=>ItC (ArV f D w') D w' g (o+j*6) (l.getD j tr0)):=fun k=>RowB.imp HR.out (fun _ h=>h) (fun g' o j hg hj hc=>hc.imp hg (fun _ h=>h) (Agree.of k HD.out) (fun _ _ _ h=>h.agree (Agree.of k HD.out)));have HRw:Hid (∀ {w':World},Below w.heap.size w w'→RowB D l.length (.slice a2 l.length c2) (fun g o j=>ItC (ArV f D w') D w' g (o+j*6) (l.getD j tr0))):=hRw;have HNe:Hid (sizeF sh=(0,0)):=by unfold Hid;exact Prod.ext hN hE
 obtain ⟨ln,hln⟩:∃ ln,l.length=ln:=⟨_,rfl⟩;have HLn:Hid (l.length=ln):=hln;have hl0:(((ln:Nat):Int)==0)=false:=by rw [beq_eq_false_iff_ne];omega
 have hs2:ln*96≤140737488355328:=by omega
 have HS1:Hid (l.length*96≤140737488355328):=hs;clear hsh hR hD hall hE hN hRw hL hrk hml hdpe hcle hs;rw [hln];clear hln;go_enter Tryz.func8,Tryz.ntmps8
 go_wp2_with fail
 generalize hA:w.alloc (.cells #[.slice none 0 0,.slice none 0 0] 25)=v at *;clear hA;refine (arrSize_any (HSh.out.imp (fun _ h=>h) (Agree.of g HD.out)) (fun g' hg=>by have:=HD.out g' hg;omega)).mono ?_;rintro e w1 ⟨rfl,hw⟩;obtain rfl:=hw.symm;rw [HNe.out];simp only [];have C1:=measItems_any (HRw.out g) (fun g' hg=>by have:=HD.out g' hg;omega) HS1.out;rw [HLn.out] at C1
 go_wp2_with fail
 refine C1.mono ?_;rintro e w2 ⟨hcase,k2⟩;clear C1;rcases hcase with ⟨_,a3,c3,rfl,hM⟩ | ⟨hno,_⟩
 case inr=>exact absurd HAll.out hno
 have HM:Hid (RowM (Fr v.heap.size w2.heap.size) w2 (.slice a3 ln c3) (msOf l)):=hM;clear hM;have s2:=k2.size;have gw2:Below w.heap.size w w2:=g.trans (k2.mono (by omega))
 go_wp2_with fail
 refine overM_any.mono ?_;rintro e w3 ⟨rfl,hw3⟩;have B1:=(boxA_new w2 #[.slice a3 ln c3] 50).below (below_alloc (w2.alloc (.cells #[.slice a3 ln c3] 50)) (.cells #[.int .i64 1] 3)) (by simp);have B2:=boxA_new (w2.alloc (.cells #[.slice a3 ln c3] 50)) #[.int .i64 1] 3;rw [World.size_alloc] at B2;have k3:Below w2.heap.size w2 w3:=by rw [hw3];exact (below_alloc w2 _).trans ((below_alloc _ _).mono (by simp))
 have sz3:w3.heap.size=w2.heap.size+1+1:=by rw [hw3];simp
 rw [← hw3] at B1 B2;clear hw3;have gw3:Below w.heap.size w w3:=gw2.trans (k3.mono (by omega));have C2:=together_any (w:=w3) (gf:=46) (lb:=#[.pointer (some ⟨w2.heap.size+1,0,none⟩),.pointer (some ⟨w2.heap.size,0,none⟩)]) (ms:=cyc (0,0) (msOf l) 1)
  (Gd:=fun pre x W=>pre++[x] <+: cyc (0,0) (msOf l) 1∧Below w3.heap.size w3 W) (Sx:=fun xs W=>xs=cyc (0,0) (msOf l) 1∧Below w3.heap.size w3 W)
  (enters_of Tryz.func46 (by kernel_rfl) rfl)
  (overM_pays (w:=w3) (D:=Fr v.heap.size w2.heap.size) (a2:=a3) (c2:=c3) (L:=msOf l) (N:=1) (n₀:=w3.heap.size) 5 (by omega) (by rw [msOf_len];exact HL.out) (by omega) (by omega) (by omega) (Nat.le_refl _) B2 (by rw [msOf_len,HLn.out];exact B1) (by rw [msOf_len,HLn.out];exact HM.out.agree (fun q hq=>k3.block q hq.2)) (fun q hq=>by have:=hq.2;omega))
  (fun s A B row h hg hrow=>⟨h.1,h.2.grown hg h.2.size (fun k e=>(hrow k e).1)⟩)
  (fun x hx=>msOf_in l x (cyc_mem (by rw [msOf_len];exact HL.out) x hx)) (by rw [cyc_len];omega) (fun _ _ _ h=>h.1) (fun _ _ h=>h.1)
 rw [HDp.out,HCl.out] at C2
 go_wp2_with fail
 refine C2.mono ?_;rintro e w4 ⟨rfl,k4⟩;clear C2 B1 B2;have s4:=k4.size;have gw4:Below w.heap.size w w4:=gw3.trans (k4.mono (by have:=gw3.size;omega));have BM:=boxA_new w4 #[.int .i64 dp,.int .i64 cl] 55;have kM:=below_alloc w4 (.cells #[.int .i64 dp,.int .i64 cl] 55);have n0:=BM.cell 0 rfl;have n1:=BM.cell 1 rfl;have gw5:Below w.heap.size w (w4.alloc (.cells #[.int .i64 dp,.int .i64 cl] 55)):=gw4.trans (kM.mono (by have:=gw4.size;omega));have sz5:(w4.alloc (.cells #[.int .i64 dp,.int .i64 cl] 55)).heap.size=w4.heap.size+1:=by simp
 have C3:=copyInts_any (HSh.out.imp (fun _ h=>h) (Agree.of gw5 HD.out)) (by have:=HRk.out;omega)
 go_wp2_with fail
 refine C3.mono ?_;rintro e w6 ⟨z1,u1,rfl,hn,k6⟩;clear C3 n0 n1 BM;have HNN:Hid (RdN (Fr (w4.alloc (.cells #[.int .i64 dp,.int .i64 cl] 55)).heap.size w6.heap.size) w6 (.slice z1 sh.length u1) sh):=hn;clear hn;have s6:=k6.size;have gw6:Below w.heap.size w w6:=gw5.trans (k6.mono (by have:=gw5.size;omega));generalize hA5:w4.alloc (.cells #[.int .i64 dp,.int .i64 cl] 55)=w5 at *;clear hA5
 go_wp2_with fail
 refine overI_any.mono ?_;rintro e w7 ⟨rfl,hw7⟩;have B1:=(boxA_new w6 #[.slice a2 ln c2] 22).below (below_alloc (w6.alloc (.cells #[.slice a2 ln c2] 22)) (.cells #[.int .i64 1] 3)) (by simp);have B2:=boxA_new (w6.alloc (.cells #[.slice a2 ln c2] 22)) #[.int .i64 1] 3;rw [World.size_alloc] at B2;have k7:Below w6.heap.size w6 w7:=by rw [hw7];exact (below_alloc w6 _).trans ((below_alloc _ _).mono (by simp))
 have sz7:w7.heap.size=w6.heap.size+1+1:=by rw [hw7];simp
 rw [← hw7] at B1 B2;clear hw7;have gw7:Below w.heap.size w w7:=gw6.trans (k7.mono (by have:=gw6.size;omega));have C4:=eachOverT (f:=f) (D:=D) (l:=l) (l':=l.map tyI) (N:=1) B2 (by rw [HLn.out];exact B1) (HRw.out gw7) (fun q hq=>by have:=HD.out q hq;have:=gw7.size;omega) HL.out (by omega) (by simp) (workT HAll.out)
 go_wp2_with fail
 refine C4.mono ?_;rintro e w8 ⟨z2,u2,rfl,hr,k8⟩;clear C4 B1 B2;have s8:=k8.size;have HRR:Hid (RowB (Fr w7.heap.size w8.heap.size) 1 (.slice z2 1 u2) (fun g o j=>ItC (ArV f (Fr w7.heap.size w8.heap.size) w8) (Fr w7.heap.size w8.heap.size) w8 g (o+j*6) ((cyc tr0 (l.map tyI) 1).getD j tr0))):=hr;clear hr;have gw8:Below w.heap.size w w8:=gw7.trans (k8.mono (by have:=gw7.size;omega));have gv8:Below v.heap.size v w8:=(((((k2.trans (k3.mono s2)).trans (k4.mono (by omega))).trans (kM.mono (by omega))).trans (k6.mono (by omega))).trans (k7.mono (by omega))).trans (k8.mono (by omega));have R3:=R.below gv8 s0;have q0:=R3.cell 0 rfl;have q1:=R3.cell 1 rfl;have f0:=R3.frozen 0;have f1:=R3.frozen 1;go_wp2
 have R4:=R3.set2 (.slice z1 sh.length u1) (.slice z2 1 u2);have r0:=R4.cell 0 rfl;have r1:=R4.cell 1 rfl;refine bodyPost_ret (v:=.tuple #[.agg #[.slice z1 sh.length u1,.slice z2 1 u2],.int .i64 0]) (by simp [results,Tryz.results8,go_sem,r0,r1]) rfl ?_;have gs5:=gw5.size;have ho:∀ q,v.heap.size≤q→((w8.setCell ⟨w.heap.size,0,none⟩ (.slice z1 sh.length u1)).setCell ⟨w.heap.size,1,none⟩ (.slice z2 1 u2)).heap[q]? = w8.heap[q]?:=fun q hq=>by
  rw [set1_other (by show ¬ w.heap.size=q;omega),set1_other (by show ¬ w.heap.size=q;omega)]
 refine ⟨z1,u1,z2,u2,rfl,⟨?_,?_⟩,Below.set2 gw8 (Nat.le_refl _) _ _⟩
 · refine HNN.out.imp ?_ ?_
   · rintro q ⟨h1,h2⟩;exact ⟨by omega,by rw [set1_size,set1_size];omega⟩
   · rintro q ⟨h1,h2⟩;rw [ho q (by omega),k8.block q (by omega),k7.block q (by omega)]
 · show RowB _ (cyc tr0 (l.map tyI) 1).length _ _
   rw [cyc_len];have hag:Agree (Fr w7.heap.size w8.heap.size) w8 ((w8.setCell ⟨w.heap.size,0,none⟩ (.slice z1 sh.length u1)).setCell ⟨w.heap.size,1,none⟩ (.slice z2 1 u2)):=by
    rintro q ⟨h1,h2⟩;exact ho q (by omega)
   have hm:∀ q,Fr w7.heap.size w8.heap.size q→Fr w.heap.size ((w8.setCell ⟨w.heap.size,0,none⟩ (.slice z1 sh.length u1)).setCell ⟨w.heap.size,1,none⟩ (.slice z2 1 u2)).heap.size q:=by
    rintro q ⟨h1,h2⟩;exact ⟨by omega,by rw [set1_size,set1_size];omega⟩
   exact RowB.imp HRR.out hm (fun q o j hq hj hc=>hc.imp hq hm hag (fun _ _ _ h=>ArV.imp hm hag f f _ _ _ (Nat.le_refl _) h))
end
end Go.Proofs.YtheaeggecpfcbaaGreat
