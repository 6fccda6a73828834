/- Rows of ints of one's own: append, slices.Grow, slices.Concat. -/
import Derived.Test.YtheaeggecpfcbaaGreatH1
import Derived.Test.YtheaeggecpfcbaaGreatKD
import Derived.Test.YtheaeggecpfcbaaGreatJ1
import Derived.Test.YtheaeggecpfcbaaGreatH5
import Derived.Test.YtheaeggecpfcbaaGreatKB
import Derived.Test.YtheaeggecpfcbaaGreatK11
import Derived.Test.YtheaeggecpfcbaaGreatK12
import Derived.Test.YtheaeggecpfcbaaGreatKA
import Derived.Test.YtheaeggecpfcbaaGreatK7
set_option maxRecDepth 100000
set_option maxHeartbeats 8000000
set_option linter.unusedVariables false
set_option linter.unusedSimpArgs false
namespace Go.Proofs.YtheaeggecpfcbaaGreat
open Go.RowKit
def OwZ (base:Nat) (w:World) (v:Value) (xs:List Int):Prop:=w.ownsRow base 3 1 v xs.length (xs.map (Value.int .i64))
theorem owZ_form {base:Nat} {w:World} {v:Value} {xs:List Int} (h:OwZ base w v xs):∃ a c,v=.slice a xs.length c:=row_form3 h
theorem owZ_nil (base:Nat) (w:World):OwZ base w (.slice none 0 0) []:=World.ownsRow_nil _ _ _ _
theorem OwZ.rd {base:Nat} {w:World} {a:Option Addr} {c:Nat} {l:List Int} (h:OwZ base w (.slice a l.length c) l) (hin:∀ x∈l,-9223372036854775808≤x∧x≤9223372036854775807):RdN (Fr base w.heap.size) w (.slice a l.length c) l:=rdN_own hin h
theorem OwZ.block {base:Nat} {w:World} {v:Value} {xs:List Int} (h:OwZ base w v xs):∀ k,v.ownBlock=some k→base≤k∧k<w.heap.size:=row_own h
theorem OwZ.below {base B:Nat} {w w':World} {v:Value} {xs:List Int} (h:OwZ base w v xs) (k:Below B w w') (hB:w.heap.size≤B):OwZ base w' v xs:=row_below h k hB
theorem Rows2.at {D:Nat→Prop} {w:World} {a:Option Addr} {c i:Nat} {ss:List (List Int)} (h:Rows2 D w a c ss) (hi:i<ss.length):∃ b o ra rc,a=some ⟨b,o,none⟩∧D b∧w.cell? ⟨b,o+i,none⟩=some (.slice ra (ss.getD i []).length rc)∧RdN D w (.slice ra (ss.getD i []).length rc) (ss.getD i []):=by
 obtain ⟨_,_,h3 | ⟨b,o,e,hd,hr⟩⟩:=h
 · rw [h3] at hi;simp at hi
 · obtain ⟨ra,rc,q1,q2⟩:=hr i hi
   exact ⟨b,o,ra,rc,e,hd,q1,q2⟩
def lenF (ss:List (List Int)):List Int:=ss.map fun l=>(l.length:Int)
theorem lenF_len (ss:List (List Int)):(lenF ss).length=ss.length:=by simp [lenF]
theorem lenF_get {ss:List (List Int)} {k:Nat} (h:k<ss.length):(lenF ss).getD k 0=((ss.getD k []).length:Int):=by
 rw [List.getD_eq_getElem?_getD,List.getD_eq_getElem?_getD];simp [lenF,h]
/-- The lengths up to the k-th. -/
def lenU (ss:List (List Int)) (k:Nat):List Int:=(lenF ss).take k++List.replicate (ss.length - k) 0
theorem lenU_set {ss:List (List Int)} {k:Nat} (h:k<ss.length):(lenU ss k).set k ((ss.getD k []).length:Int)=lenU ss (k+1):=by
 unfold lenU;have e1:ss.length - k=(ss.length - (k+1))+1:=by omega
 have e2:((lenF ss).take k).length=k:=by rw [List.length_take,lenF_len];omega
 have e3:=lenF_get h;rw [List.getD_eq_getElem?_getD,List.getElem?_eq_getElem (by rw [lenF_len];exact h),Option.getD_some] at e3;rw [e1,List.replicate_succ,List.set_append_right _ _ (by omega),e2,Nat.sub_self,List.set_cons_zero,List.take_add_one,List.getElem?_eq_getElem (by rw [lenF_len];exact h),e3,List.append_assoc];rfl
theorem lenU_len {ss:List (List Int)} {k:Nat} (h:k≤ss.length):(lenU ss k).length=ss.length:=by
 unfold lenU;rw [List.length_append,List.length_take,lenF_len,List.length_replicate];omega
theorem lenU_all (ss:List (List Int)):lenU ss ss.length=lenF ss:=by
 unfold lenU;rw [Nat.sub_self,List.take_of_length_le (by rw [lenF_len];exact Nat.le_refl _)];simp
theorem lengths6_any {D:Nat→Prop} {w:World} {a:Option Addr} {c:Nat} {ss:List (List Int)} (h:Rows2 D w a c ss) (hD:∀ g,D g→g<w.heap.size) (hn:ss.length≤100) (hl:∀ l∈ss,l.length≤1000000) :
    Calls Tryz.prog 116 #[.slice a ss.length c] w fun e w'=>∃ z u,e=.returned (.slice z ss.length u)∧RdN (Fr w.heap.size w'.heap.size) w' (.slice z ss.length u) (lenF ss)∧Below w.heap.size w w':=by
 have HR:Hid (Rows2 D w a c ss):=h;have HD:Hid (∀ g,D g→g<w.heap.size):=hD;have HL:Hid (∀ l∈ss,l.length≤1000000):=hl;have hc:=h.1;have hc2:=h.2.1;have hmk:=make_ints ss.length (by omega);have kz:=below_alloc w (.cells (Array.replicate ss.length (Value.int .i64 0)) 3);have Bz:=boxA_new w (Array.replicate ss.length (Value.int .i64 0)) 3;have BZ:BoxA (w.alloc (.cells (Array.replicate ss.length (Value.int .i64 0)) 3)) w.heap.size 3 ((lenU ss 0).map (Value.int .i64)).toArray:=by
  have e:lenU ss 0=List.replicate ss.length 0:=by unfold lenU;rw [List.take_zero,List.nil_append,Nat.sub_zero]
  rw [e,← rep_ints];exact Bz
 clear h hD hl Bz;go_enter Tryz.func116,Tryz.ntmps116
 go_wp2_with fail
 generalize hA:w.alloc (.cells (Array.replicate ss.length (Value.int .i64 0)) 3)=v at *;clear hA hmk
 go_loopw [11] (fun iv wr=>∃ k:Nat,iv=.int .i64 k∧k≤ss.length∧BoxA wr w.heap.size 3 ((lenU ss k).map (Value.int .i64)).toArray∧Below w.heap.size w wr) (fun iv _=>ss.length - (intOf iv).toNat)
 case atStart=>exact ⟨0,rfl,Nat.zero_le _,BZ,kz⟩
 case round=>
  obtain ⟨k,rfl,hkl,hB,hk⟩:=hrel;by_cases hlt:k<ss.length
  · obtain ⟨g,o,ra,rc,rfl,hg,q1,q2⟩:=HR.out.at hlt
    have E1:=(hk.cell (p:=⟨g,o+k,none⟩) (HD.out g hg)).trans q1;have co:=hB.cell k (v:=.int .i64 ((lenU ss k).getD k 0)) (by
     have:=getD_map_i64 (lenU ss k) k (by rw [lenU_len hkl];exact hlt);simpa using this)
    have fo:=hB.frozen k;have hm:(ss.getD k []).length≤1000000:=HL.out _ (by rw [List.getD_eq_getElem?_getD,List.getElem?_eq_getElem hlt];exact List.getElem_mem hlt);have BN:=hB.putZ k (.int .i64 ((ss.getD k []).length:Int));have HBN:Hid (BoxA (wr.setCell ⟨w.heap.size,k,none⟩ (.int .i64 ((ss.getD k []).length:Int))) w.heap.size 3 ((lenU ss (k+1)).map (Value.int .i64)).toArray):=by
     unfold Hid;rw [← lenU_set hlt,List.map_set];simpa using BN
    have HK:Hid (Below w.heap.size w (wr.setCell ⟨w.heap.size,k,none⟩ (.int .i64 ((ss.getD k []).length:Int)))):=hk.setCell (p:=⟨w.heap.size,k,none⟩) (Nat.le_refl _) _;clear q1 q2 BN;generalize (ss.getD k []).length=m at *;go_wp2
    go_roundw
    case rel=>exact ⟨k+1,by go_num,by omega,HBN.out,HK.out⟩
    case measure=>simp [intOf];omega
  · obtain rfl:k=ss.length:=by omega
    rw [lenU_all] at hB;have hin:Hid (∀ x∈lenF ss,-9223372036854775808≤x∧x≤9223372036854775807):=fun x hx=>by
     obtain ⟨l,hl,rfl⟩:=List.mem_map.1 hx;have:=HL.out l hl;omega
    go_wp2
    go_ret
    refine ⟨_,_,rfl,?_,hk⟩;have key:=rdN_box (D:=Fr w.heap.size wr.heap.size) hB ⟨Nat.le_refl _,hB.lt⟩ hin.out (by rw [lenF_len];omega);rw [lenF_len] at key;exact key
section
variable {f:Nat} {D:Nat→Prop} {W:World} {x1 x2:Option Addr} {n1 y1 n2 y2:Nat} {t:Tr}
theorem proto6_any (hD:∀ g,D g→g<W.heap.size) (h:ArV (f+1) D W (.slice x1 n1 y1) (.slice x2 n2 y2) t) (hm:(measF 16 t).isSome=true) :
    Calls Tryz.prog 93 #[.agg #[.slice x1 n1 y1,.slice x2 n2 y2]] W fun e w'=>∃ y:IV,e=.returned (.agg #[.int .u8 y.k,.bool y.b,.slice y.a1 y.n1 y.c1,.slice y.a2 y.n2 y.c2,.int .i32 y.c,.slice y.a3 y.n3 y.c3])∧IsIt f (Fr W.heap.size w'.heap.size) w' y (tyI (t.kids.getD 0 tr0))∧Below W.heap.size W w':=by
 obtain ⟨L',hL,_,_,hk,hk4,hall⟩:=measF_some hm;obtain rfl:L'=15:=by omega
 have hpos:0<t.kids.length:=by omega
 have e2:=h.2.len;subst e2;obtain ⟨g,o,rfl,hg,hc⟩:=h.2.ptr hpos;obtain ⟨a1,c1,a2,c2,a3,c3,⟨q0,q1,q2,q3,q4,q5⟩,hv⟩:=hc 0 hpos;rw [Nat.zero_mul,Nat.add_zero] at q0 q1 q2 q3 q4 q5;have hm0:(measI (measF 15) (t.kids.getD 0 tr0)).isSome=true:=hall _ (by rw [List.getD_eq_getElem?_getD,List.getElem?_eq_getElem hpos];exact List.getElem_mem hpos);obtain ⟨s,hs⟩:∃ s,t.kids.getD 0 tr0=s:=⟨_,rfl⟩;rw [hs] at q0 q1 q2 q3 q4 q5 hv hm0 ⊢;clear hs hc;have HD:Hid (∀ g,D g→g<W.heap.size):=hD;have HM:Hid ((measF 16 t).isSome=true):=hm;have H:Hid (ArV (f+1) D W (.slice x1 n1 y1) (.slice (some ⟨g,o,none⟩) t.kids.length y2) t):=h;have k0:=below_alloc W (.cells #[.slice x1 n1 y1,.slice (some ⟨g,o,none⟩) t.kids.length y2] 25);have X0:=boxA_new W #[.slice x1 n1 y1,.slice (some ⟨g,o,none⟩) t.kids.length y2] 25;have k1:=below_alloc (W.alloc (.cells #[.slice x1 n1 y1,.slice (some ⟨g,o,none⟩) t.kids.length y2] 25)) (.cells #[.int .u8 0,.bool false,.slice none 0 0,.slice none 0 0,.int .i32 0,.slice none 0 0] 68);have R0:=boxA_new (W.alloc (.cells #[.slice x1 n1 y1,.slice (some ⟨g,o,none⟩) t.kids.length y2] 25)) #[.int .u8 0,.bool false,.slice none 0 0,.slice none 0 0,.int .i32 0,.slice none 0 0] 68;have X:=X0.below k1 (by simp);have kk:Below W.heap.size W _:=k0.trans (k1.mono (by simp));have s0:((W.alloc (.cells #[.slice x1 n1 y1,.slice (some ⟨g,o,none⟩) t.kids.length y2] 25)).alloc (.cells #[.int .u8 0,.bool false,.slice none 0 0,.slice none 0 0,.int .i32 0,.slice none 0 0] 68)).heap.size=W.heap.size+1+1:=by simp
 rw [World.size_alloc] at R0;have z0:=X.cell 0 rfl;have z1:=X.cell 1 rfl;have HIt:Hid (∀ w',Below W.heap.size W w'→IsIt f D w' ⟨s.k,s.b,a1,s.ns.length,c1,a2,s.ds.length,c2,s.c,a3,s.kids.length,c3⟩ s):=fun w' k=>⟨rfl,rfl,rfl,rfl,rfl,rfl,hv.agree (Agree.of k HD.out)⟩;have HM0:Hid ((measI (measF 15) s).isSome=true):=hm0;have hgl:=hD g hg;clear h hm hv hm0 hD X0 k0 k1 hall hL hk;go_enter Tryz.func93,Tryz.ntmps93
 go_wp2_with fail
 generalize hA:(W.alloc (.cells #[.slice x1 n1 y1,.slice (some ⟨g,o,none⟩) t.kids.length y2] 25)).alloc (.cells #[.int .u8 0,.bool false,.slice none 0 0,.slice none 0 0,.int .i32 0,.slice none 0 0] 68)=v at *;clear hA;have C1:=right3_any (fun g hg=>by have:=HD.out g hg;omega) (H.out.agree (Agree.of kk HD.out));rw [HM.out] at C1;refine C1.mono ?_;rintro e w1 ⟨rfl,k2⟩;clear C1 z0 z1;have s1:=k2.size;have X1:=X.below k2 (by omega);have R1:=R0.below k2 (by omega);have kw:=kk.trans (k2.mono (by omega));have z1:=X1.cell 1 rfl;have E0:=(kw.cell (p:=⟨g,o,none⟩) hgl).trans q0;have E1:=(kw.cell (p:=⟨g,o+1,none⟩) hgl).trans q1;have E2:=(kw.cell (p:=⟨g,o+2,none⟩) hgl).trans q2;have E3:=(kw.cell (p:=⟨g,o+3,none⟩) hgl).trans q3;have E4:=(kw.cell (p:=⟨g,o+4,none⟩) hgl).trans q4;have E5:=(kw.cell (p:=⟨g,o+5,none⟩) hgl).trans q5;have C2:=typeOf_all f 15 D w1 _ _ (fun g hg=>by have:=HD.out g hg;omega) (HIt.out w1 kw) HM0.out;clear q0 q1 q2 q3 q4 q5;have hp2:(0:Int)<(t.kids.length:Int):=by omega
 go_wp2_with fail
 refine C2.mono ?_;rintro e w2 ⟨y,rfl,hy,k3⟩;have HY:Hid (IsIt f (Fr w1.heap.size w2.heap.size) w2 y (tyI s)):=hy;have s2:=k3.size;have R2:=R1.below k3 (by omega);have kz:=kw.trans (k3.mono (by omega));clear C2 hy E0 E1 E2 E3 E4 E5 z1;have r0:=R2.cell 0 rfl;have r1:=R2.cell 1 rfl;have r2:=R2.cell 2 rfl;have r3:=R2.cell 3 rfl;have r4:=R2.cell 4 rfl;have r5:=R2.cell 5 rfl;have f0:=R2.frozen 0;have f1:=R2.frozen 1;have f2:=R2.frozen 2;have f3:=R2.frozen 3;have f4:=R2.frozen 4;have f5:=R2.frozen 5;have Rd6:=R2.set6 (.int .u8 y.k) (.bool y.b) (.slice y.a1 y.n1 y.c1) (.slice y.a2 y.n2 y.c2) (.int .i32 y.c) (.slice y.a3 y.n3 y.c3);have w0':=Rd6.cell 0 rfl;have w1':=Rd6.cell 1 rfl;have w2':=Rd6.cell 2 rfl;have w3':=Rd6.cell 3 rfl;have w4':=Rd6.cell 4 rfl;have w5':=Rd6.cell 5 rfl;go_wp2
 try simp only [Exit.inBlock,Exit.then]
 refine bodyPost_ret (v:=.agg #[.int .u8 y.k,.bool y.b,.slice y.a1 y.n1 y.c1,.slice y.a2 y.n2 y.c2,.int .i32 y.c,.slice y.a3 y.n3 y.c3]) ?_ rfl ?_
 · simp [results,Tryz.results93,go_sem,w0',w1',w2',w3',w4',w5']
 refine ⟨y,rfl,?_,Below.set6 kz (by omega) _ _ _ _ _ _⟩;refine HY.out.imp ?_ ?_
 · rintro g' ⟨h1,h2⟩
   exact ⟨by omega,by rw [set6_size];exact h2⟩
 · rintro g' ⟨h1,h2⟩
   exact set6_other (by omega) _ _ _ _ _ _
end
theorem count6_any {D:Nat→Prop} {w:World} {x1 x2:Option Addr} {y1 n2 y2:Nat} {sh:List Int} (h:RdN D w (.slice x1 sh.length y1) sh) (hD:∀ g,D g→g<w.heap.size) :
    Calls Tryz.prog 92 #[.agg #[.slice x1 sh.length y1,.slice x2 n2 y2]] w fun e w'=>e=.returned (.int .i64 (sizeF sh).1)∧Below w.heap.size w w':=by
 have k0:=below_alloc w (.cells #[.slice x1 sh.length y1,.slice x2 n2 y2] 25);have X0:=boxA_new w #[.slice x1 sh.length y1,.slice x2 n2 y2] 25;have s0:w.heap.size<(w.alloc (.cells #[.slice x1 sh.length y1,.slice x2 n2 y2] 25)).heap.size:=by simp
 have z0:=X0.cell 0 rfl;have H:Hid (RdN D w (.slice x1 sh.length y1) sh):=h;have HD:Hid (∀ g,D g→g<w.heap.size):=hD;clear h hD;go_enter Tryz.func92,Tryz.ntmps92
 go_wp2_with fail
 generalize hA:w.alloc (.cells #[.slice x1 sh.length y1,.slice x2 n2 y2] 25)=v at *;clear hA;refine (arrSize_any (H.out.imp (fun _ h=>h) (Agree.of k0 HD.out)) (fun g hg=>by have:=HD.out g hg;omega)).mono ?_;rintro e w1 ⟨rfl,hw⟩;obtain rfl:=hw.symm;go_wp2
 go_ret
 exact ⟨rfl,k0⟩
/-- Nothing is refused: the glyph is known, the origin is 1, all arrays are right. -/
theorem refused_ok {D:Nat→Prop} {f:Nat} {w:World} {a e1 e2:Option Addr} {c m1 k1 m2 k2:Nat} {eb:Bool} {pp:Int} {ts:List Tr} (hD:∀ g,D g→g<w.heap.size) (hR:∀ t∈ts,(measF 16 t).isSome=true)
    (hRow:RowB D ts.length (.slice a ts.length c) (fun g o j=>∃ x1 n1 y1 x2 n2 y2,w.cell? ⟨g,o+j*2,none⟩=some (.slice x1 n1 y1)∧w.cell? ⟨g,o+j*2+1,none⟩=some (.slice x2 n2 y2)∧ArV f D w (.slice x1 n1 y1) (.slice x2 n2 y2) (ts.getD j tr0))) :
    Calls Tryz.prog 34 #[.bool false,.agg #[.int .i64 1,.bool eb,.slice e1 m1 k1,.slice e2 m2 k2,.int .i64 pp],.slice a ts.length c] w fun e w'=>e=.returned (.int .i64 0)∧Below w.heap.size w w':=by
 have bd:=hRow.bounds;have kE:=below_alloc w (.cells #[.int .i64 1,.bool eb,.slice e1 m1 k1,.slice e2 m2 k2,.int .i64 pp] 36);have XE:=boxA_new w #[.int .i64 1,.bool eb,.slice e1 m1 k1,.slice e2 m2 k2,.int .i64 pp] 36;have z0:=XE.cell 0 rfl;have HD:Hid (∀ g,D g→g<w.heap.size):=hD;have HR:Hid (∀ t∈ts,(measF 16 t).isSome=true):=hR;have HW:Hid (RowB D ts.length (.slice a ts.length c) (fun g o j=>∃ x1 n1 y1 x2 n2 y2,w.cell? ⟨g,o+j*2,none⟩=some (.slice x1 n1 y1)∧w.cell? ⟨g,o+j*2+1,none⟩=some (.slice x2 n2 y2)∧ArV f D w (.slice x1 n1 y1) (.slice x2 n2 y2) (ts.getD j tr0))):=hRow;clear hD hR hRow;go_enter Tryz.func34,Tryz.ntmps34
 go_wp2_with fail
 clear z0;generalize hA:w.alloc (.cells #[.int .i64 1,.bool eb,.slice e1 m1 k1,.slice e2 m2 k2,.int .i64 pp] 36)=v at *;clear hA
 go_loopw [20] (fun iv wr=>∃ i:Nat,iv=.int .i64 i∧i≤ts.length∧Below w.heap.size w wr) (fun iv _=>ts.length - (intOf iv).toNat)
 case atStart=>exact ⟨0,rfl,Nat.zero_le _,kE⟩
 case round=>
  obtain ⟨i,rfl,hil,hk⟩:=hrel;by_cases hlt:i<ts.length
  · obtain ⟨g,o,rfl,hg,hc⟩:=HW.out.ptr (by omega)
    obtain ⟨x1,n1,y1,x2,n2,y2,q1,q2,hv⟩:=hc i hlt;have lg:=HD.out g hg;have E1:=(hk.cell (p:=⟨g,o+i*2,none⟩) lg).trans q1;have E2:=(hk.cell (p:=⟨g,o+i*2+1,none⟩) lg).trans q2;have HM:Hid ((measF 16 (ts.getD i tr0)).isSome=true):=HR.out _ (by rw [List.getD_eq_getElem?_getD,List.getElem?_eq_getElem hlt];exact List.getElem_mem hlt);have HV:Hid (ArV f D w (.slice x1 n1 y1) (.slice x2 n2 y2) (ts.getD i tr0)):=hv;have kx:=below_alloc wr (.cells #[.slice x1 n1 y1,.slice x2 n2 y2] 25);have BX:=boxA_new wr #[.slice x1 n1 y1,.slice x2 n2 y2] 25;have hb:=hk.trans (kx.mono hk.size);have m0:=BX.cell 0 rfl;have m1':=BX.cell 1 rfl;have C:=right3_any (fun g hg=>by have:=HD.out g hg;have:=hb.size;omega) (HV.out.agree (Agree.of hb HD.out));rw [HM.out] at C;clear hc q1 q2 hv
    go_wp2_with fail
    refine C.mono ?_;rintro e w3 ⟨rfl,k3⟩;have hb3:=hb.trans (k3.mono hb.size);clear C m0 m1' BX E1 E2;go_wp2
    go_roundw
    case rel=>exact ⟨i+1,by go_num,by omega,hb3⟩
    case measure=>simp [intOf];omega
  · obtain rfl:i=ts.length:=by omega
    go_wp2
    go_ret
    exact ⟨rfl,hk⟩
theorem index_any {D:Nat→Prop} {w:World} {x:Option Addr} {y:Nat} {l:List Int} (v:Int) (h:RdN D w (.slice x l.length y) l) :
    Calls Tryz.prog 146 #[.slice x l.length y,.int .i64 v] w fun e w'=>(∃ r:Int,e=.returned (.int .i64 r)∧Hid (0≤r↔v∈l))∧w'=w:=by
 have hb:=h.bounds;have H:Hid (RdN D w (.slice x l.length y) l):=h;clear h;go_enter Tryz.func146,Tryz.ntmps146
 go_wp2_with fail
 go_loopw [8] (fun iv wr=>∃ i:Nat,iv=.int .i64 i∧i≤l.length∧wr=w∧Hid (∀ j,j<i→l.getD j 0≠v)) (fun iv _=>l.length - (intOf iv).toNat)
 case atStart=>exact ⟨0,rfl,Nat.zero_le _,rfl,fun j hj=>by omega⟩
 case round=>
  obtain ⟨i,rfl,hil,hw,HN⟩:=hrel;obtain rfl:=hw.symm;by_cases hlt:i<l.length
  · obtain ⟨g,o,rfl,hg,hc⟩:=H.out.ptr (by omega)
    have c0:=hc i hlt;have hm:l.getD i 0∈l:=by rw [List.getD_eq_getElem?_getD,List.getElem?_eq_getElem hlt];exact List.getElem_mem hlt
    have HS:Hid (∀ u,l.getD i 0=u→u≠v→∀ j,j<i+1→l.getD j 0≠v):=fun u hu hne j hj=>by
     rcases Nat.lt_or_ge j i with h | h
     · exact HN.out j h
     · obtain rfl:j=i:=by omega
       rw [hu];exact hne
    have HM:Hid (∀ u,l.getD i 0=u→u∈l):=fun u hu=>by rw [← hu];exact hm
    obtain ⟨u,hu⟩:∃ u,l.getD i 0=u:=⟨_,rfl⟩;have HU:Hid (l.getD i 0=u):=hu;rw [hu] at c0;clear hc hm hu;by_cases he:v=u
    · subst he
      have HV:Hid (v∈l):=HM.out _ HU.out;go_wp2
      go_ret
      exact ⟨⟨(i:Int),rfl,show Hid (0≤(i:Int)↔v∈l) from Iff.intro (fun _=>HV.out) (fun _=>Int.natCast_nonneg i)⟩,rfl⟩
    · have HE:Hid (u≠v):=fun h=>he h.symm
      have hd:decide (v=u)=false:=decide_eq_false he;have hd2:(v==u)=false:=by rw [beq_eq_false_iff_ne];exact he
      clear he;go_wp2
      go_roundw
      case rel=>exact ⟨i+1,by go_num,by omega,by first | trivial | rfl,HS.out u HU.out HE.out⟩
      case measure=>simp [intOf];omega
  · obtain rfl:i=l.length:=by omega
    have HNo:Hid (¬ v∈l):=fun hv=>by
     obtain ⟨j,hj,e⟩:=List.getElem_of_mem hv;exact HN.out j hj (by rw [List.getD_eq_getElem?_getD,List.getElem?_eq_getElem hj,Option.getD_some,e])
    go_wp2
    go_ret
    exact ⟨⟨-1,rfl,show Hid ((0:Int)≤-1↔v∈l) from Iff.intro (fun h=>absurd h (by decide)) (fun h=>absurd h HNo.out)⟩,rfl⟩
theorem contains_ints {D:Nat→Prop} {w:World} {x:Option Addr} {y:Nat} {l:List Int} (v:Int) (h:RdN D w (.slice x l.length y) l) :
    Calls Tryz.prog 110 #[.slice x l.length y,.int .i64 v] w fun e w'=>e=.returned (.bool (decide (v∈l)))∧w'=w:=by
 have C:=index_any v h;clear h;go_enter Tryz.func110,Tryz.ntmps110
 go_wp2_with fail
 refine C.mono ?_;rintro e w1 ⟨⟨r,rfl,hr⟩,hw⟩;obtain rfl:=hw.symm;have e:decide (r ≥ 0)=decide (v∈l):=decide_eq_decide.2 hr.out;have e2:decide (0≤r)=decide (v∈l):=decide_eq_decide.2 hr.out;go_wp2
 go_ret
 simp [e2]
theorem isEmpty6_any {D:Nat→Prop} {w:World} {x:Option Addr} {y:Nat} {l:List Int} (h:RdN D w (.slice x l.length y) l) :
    Calls Tryz.prog 140 #[.slice x l.length y] w fun e w'=>e=.returned (.bool (decide ((0:Int)∈l)))∧w'=w:=by
 have C:=contains_ints 0 h;clear h;go_enter Tryz.func140,Tryz.ntmps140
 go_wp2_with fail
 refine C.mono ?_;rintro e w1 ⟨rfl,hw⟩;obtain rfl:=hw.symm;go_wp2
 go_ret
 exact ⟨rfl,rfl⟩
end Go.Proofs.YtheaeggecpfcbaaGreat
