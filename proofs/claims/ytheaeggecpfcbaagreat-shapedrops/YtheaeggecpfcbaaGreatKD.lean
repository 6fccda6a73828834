/- The document's Int, Num, Ints. -/
import Derived.Test.YtheaeggecpfcbaaGreatKC
import Derived.Test.YtheaeggecpfcbaaGreatKB
import Derived.Test.YtheaeggecpfcbaaGreatK12
set_option maxRecDepth 100000
set_option maxHeartbeats 16000000
set_option linter.unusedVariables false
set_option linter.unusedSimpArgs false
namespace Go.Proofs.YtheaeggecpfcbaaGreat
open Go.RowKit
theorem tells_whole {q n:Int} {ok:Bool} (h0:-9223372036854775808≤q) (h1:q<9223372036854775808) (h:TellsInt (wholeT q) n ok):n=q∧ok=true:=by
 have hw:=wholeT_is h0 h1;rcases h with ⟨_,h⟩ | ⟨hk,_⟩
 · have hsg:=hw.sg.1
   rcases h with ⟨h1',h2,h3,h4,h5⟩ | ⟨h1',h2,h3⟩
   · exact ⟨h5.trans hsg,h1'⟩
   · refine absurd ⟨⟨hw.right,hw.2.2.2.2⟩,?_,?_⟩ h3
     · rw [hsg];exact h0
     · rw [hsg];exact h1
 · exact absurd rfl hk
theorem rdN_own {W:World} {Z:Nat} {a:Option Addr} {c:Nat} {l:List Int} (hin:∀ x∈l,-9223372036854775808≤x∧x≤9223372036854775807) (h:W.ownsRow Z 3 1 (.slice a l.length c) l.length (l.map (Value.int .i64))):RdN (Fr Z W.heap.size) W (.slice a l.length c) l:=by
 have hrow:=h;obtain ⟨_,h | ⟨g,cap,cur,hv,hg,hh,h2,h3,_,_⟩⟩:=h
 · obtain ⟨e1,e2⟩:=h
   obtain ⟨rfl,_,rfl⟩:=Value.slice.inj e1;exact ⟨hin,none,0,rfl,by omega,by omega,fun _=>rfl,Or.inl e2⟩
 · obtain ⟨rfl,_,rfl⟩:=Value.slice.inj hv
   refine ⟨hin,_,_,rfl,h2,by unfold maxLen at h3;omega,(fun h=>by cases h),Or.inr ⟨g,0,rfl,⟨hg,lt_of_block hh⟩,fun j hj => ?_⟩⟩;have:=hrow.cellAt j (by omega);rw [getD_map_i64 l j hj] at this;rw [Nat.zero_add];exact this
section
variable {D:Nat→Prop} {f:Nat} {W:World} {x1:Option Addr} {n1 y1:Nat} {x2:Option Addr} {n2 y2:Nat} {l:List Int}
theorem toInts_vec (hD:∀ g,D g→g<W.heap.size) (hin:∀ x∈l,-9223372036854775808≤x∧x≤9223372036854775807) (h:ArV (f+1) D W (.slice x1 n1 y1) (.slice x2 n2 y2) (vecT (wholeT 0) (l.map wholeT))) :
    Calls Tryz.prog 134 #[.agg #[.slice x1 n1 y1,.slice x2 n2 y2]] W fun e w'=>∃ a c,e=.returned (.tuple #[.slice a (l.take 4096).length c,.bool true])∧RdN (Fr W.heap.size w'.heap.size) w' (.slice a (l.take 4096).length c) (l.take 4096)∧Below W.heap.size W w':=by
 have hall:∀ t∈l.map wholeT,∀ M,measI M t=some (0,0):=fun t ht M=>by
  obtain ⟨q,hq,rfl⟩:=List.mem_map.1 ht;exact whole_meas M (hin q hq).1 (by have:=(hin q hq).2;omega)
 have hm:measF 16 (vecT (wholeT 0) (l.map wholeT))=some (1,((vecT (wholeT 0) (l.map wholeT)).kids.length:Int)):=vec_meas (L:=15) (whole_meas _ (by omega) (by omega)) (fun t ht=>hall t ht _);have HM:Hid ((measF 16 (vecT (wholeT 0) (l.map wholeT))).isSome=true):=by unfold Hid;rw [hm];rfl
 have HIn:Hid (∀ x∈l,-9223372036854775808≤x∧x≤9223372036854775807):=hin;have en:n1=1:=h.1.len;subst en;have e2:=h.2.len;have hl4:(l.take 4096).length≤4096:=by rw [List.length_take];omega
 have hsz:sizeF (vecT (wholeT 0) (l.map wholeT)).ns=(((((l.map wholeT).take 4096).length:Nat):Int),0):=size_one (by omega) (by rw [List.length_take];omega);have hlm:((l.map wholeT).take 4096).length=(l.take 4096).length:=by rw [List.length_take,List.length_map,List.length_take]
 rw [hlm] at hsz;have HSz:Hid (sizeF (vecT (wholeT 0) (l.map wholeT)).ns=((((l.take 4096).length:Nat):Int),0)):=hsz;have H:Hid (ArV (f+1) D W (.slice x1 1 y1) (.slice x2 n2 y2) (vecT (wholeT 0) (l.map wholeT))):=h;have HD:Hid (∀ g,D g→g<W.heap.size):=hD;have HK:Hid (n2=(vecT (wholeT 0) (l.map wholeT)).kids.length):=e2;have k0:=below_alloc W (.cells #[.slice x1 1 y1,.slice x2 n2 y2] 25);have X0:=boxA_new W #[.slice x1 1 y1,.slice x2 n2 y2] 25;have s0:W.heap.size<(W.alloc (.cells #[.slice x1 1 y1,.slice x2 n2 y2] 25)).heap.size:=by simp
 have z0:=X0.cell 0 rfl;have z1:=X0.cell 1 rfl;obtain ⟨i0,hi0,hz0,hz1,hz2⟩:=info_parts info_int3;clear h hD hall hm hin hsz hlm e2;go_enter Tryz.func134,Tryz.ntmps134
 go_wp2_with fail
 generalize hA:W.alloc (.cells #[.slice x1 1 y1,.slice x2 n2 y2] 25)=v at *;clear hA;have C1:=right3_any (fun g hg=>by have:=HD.out g hg;omega) (H.out.agree (Agree.of k0 HD.out));rw [HM.out] at C1;refine C1.mono ?_;rintro e w1 ⟨rfl,q1⟩;clear C1 z0 z1;have X1:=X0.below q1 s0;have l1:=X1.lt;have k1:Below W.heap.size W w1:=k0.trans (q1.mono (by omega));have v0:=X1.cell 0 rfl;have v1:=X1.cell 1 rfl;have C2:=isEmpty3_any (fun g hg=>by have:=HD.out g hg;omega) (H.out.agree (Agree.of k1 HD.out));rw [HSz.out] at C2;simp only [] at C2
 go_wp2_with fail
 refine C2.mono ?_;rintro e w2 ⟨rfl,q2⟩;clear C2 v0 v1;have X2:=X1.below q2 l1;have l2:=X2.lt;have k2:Below W.heap.size W w2:=k1.trans (q2.mono (by omega));by_cases hz:(l.take 4096).length=0
 · have hd:decide ((((l.take 4096).length:Nat):Int)=0)=true:=decide_eq_true (by omega)
   have HZ:Hid ((l.take 4096).length=0):=hz;rw [hd];clear hd hz;go_wp2
   go_ret2
   refine ⟨none,0,by rw [HZ.out];rfl,?_,k2⟩;have e:l.take 4096=[]:=List.eq_nil_of_length_eq_zero HZ.out;rw [e];exact ⟨(fun x h=>by cases h),none,0,rfl,Nat.le_refl _,by omega,fun _=>rfl,Or.inl rfl⟩
 have hd:decide ((((l.take 4096).length:Nat):Int)=0)=false:=decide_eq_false (by omega);rw [hd];have hts:¬ (l.map wholeT).length=0:=by rw [List.length_map];intro h0;rw [List.length_take] at hz;omega
 have hkids:(vecT (wholeT 0) (l.map wholeT)).kids=(l.map wholeT).take 4096:=by show vecK _ _=_;unfold vecK;rw [if_neg hts]
 obtain ⟨m,hm⟩:∃ m,(l.take 4096).length=m:=⟨_,rfl⟩;have hn2:n2=m:=by have:=HK.out;rw [hkids] at this;rw [this,← hm,List.length_take,List.length_map,List.length_take]
 subst hn2;have HMl:Hid ((l.take 4096).length=n2):=hm;have hm4:n2≤4096:=by omega
 have HKids:Hid (∀ j,j<n2→(vecT (wholeT 0) (l.map wholeT)).kids.getD j tr0=wholeT ((l.take 4096).getD j 0)):=by
  intro j hj;rw [hkids];have hjl:j<l.length:=by rw [← hm,List.length_take] at hj;omega
  rw [List.getD_eq_getElem?_getD,List.getElem?_take_of_lt (by omega),List.getElem?_map,List.getElem?_eq_getElem hjl,List.getD_eq_getElem?_getD,List.getElem?_take_of_lt (by omega),List.getElem?_eq_getElem hjl];rfl
 have hpos:0<n2:=by omega
 clear hd hz hts hkids hm;have u1:=X2.cell 1 rfl
 go_wp2_with fail
 go_loopw [4,23] (fun ov iv wr=>∃ (i:Nat) (a:Option Addr) (c:Nat),iv=.int .i64 i∧ov=.slice a i c∧i≤n2∧wr.ownsRow W.heap.size 3 1 (.slice a i c) i (((l.take 4096).take i).map (Value.int .i64))∧Below W.heap.size W wr) (fun _ iv _=>n2 - (intOf iv).toNat)
 case atStart=>exact ⟨0,none,0,rfl,rfl,Nat.zero_le _,World.ownsRow_nil _ _ _ _,k2⟩
 case round=>
  obtain ⟨i,a,c,rfl,rfl,hil,ho,hbr⟩:=hrel;have sb:=hbr.size;by_cases hlt:i<n2
  · have hR:=H.out.2
    have hcell:∃ g o,x2=some ⟨g,o,none⟩∧D g∧∀ j,j<n2→ItC (ArV f D W) D W g (o+j*6) ((vecT (wholeT 0) (l.map wholeT)).kids.getD j tr0):=by
     have:=HK.out;rw [← this] at hR;exact RowB.ptr hR hpos
    obtain ⟨g1,o1,rfl,hg1,hc1⟩:=hcell;obtain ⟨b1,d1,b2,d2,b3,d3,⟨e0,e1,e2,e3,e4,e5⟩,hv⟩:=hc1 i hlt;have hk:=HKids.out i hlt;have lg:=HD.out g1 hg1;obtain ⟨q,hq⟩:∃ q,(l.take 4096).getD i 0=q:=⟨_,rfl⟩;rw [hq] at hk;have hqm:q∈l:=by
     have hjl:i<(l.take 4096).length:=by have:=HMl.out;omega
     rw [← hq,List.getD_eq_getElem?_getD,List.getElem?_eq_getElem hjl];exact List.mem_of_mem_take (List.getElem_mem hjl)
    obtain ⟨hq0,hq1⟩:=HIn.out q hqm;obtain ⟨t,ht⟩:∃ t,(vecT (wholeT 0) (l.map wholeT)).kids.getD i tr0=t:=⟨_,rfl⟩;rw [ht] at e0 e1 e2 e3 e4 e5 hv hk;have HT:Hid (t=wholeT q):=hk;have HQ:Hid ((l.take 4096).take i++[q]=(l.take 4096).take (i+1)):=by unfold Hid;rw [← hq];exact pre_step (by have:=HMl.out;omega)
    have E0:=(hbr.cell (p:=⟨g1,o1+i*6,none⟩) lg).trans e0;have E1:=(hbr.cell (p:=⟨g1,o1+i*6+1,none⟩) lg).trans e1;have E2:=(hbr.cell (p:=⟨g1,o1+i*6+2,none⟩) lg).trans e2;have E3:=(hbr.cell (p:=⟨g1,o1+i*6+3,none⟩) lg).trans e3;have E4:=(hbr.cell (p:=⟨g1,o1+i*6+4,none⟩) lg).trans e4;have E5:=(hbr.cell (p:=⟨g1,o1+i*6+5,none⟩) lg).trans e5;have HV:Hid (ItV (ArV f D W) D W b1 d1 b2 d2 b3 d3 t):=hv;clear hc1 e0 e1 e2 e3 e4 e5 hv hk ht hq hqm hR;have kx:=below_alloc wr (.cells #[.int .u8 t.k,.bool t.b,.slice b1 t.ns.length d1,.slice b2 t.ds.length d2,.int .i32 t.c,.slice b3 t.kids.length d3] 68);have BX:=boxA_new wr #[.int .u8 t.k,.bool t.b,.slice b1 t.ns.length d1,.slice b2 t.ds.length d2,.int .i32 t.c,.slice b3 t.kids.length d3] 68;have ho1:=ho.alloc (.cells #[.int .u8 t.k,.bool t.b,.slice b1 t.ns.length d1,.slice b2 t.ds.length d2,.int .i32 t.c,.slice b3 t.kids.length d3] 68);have hb1:=hbr.trans (kx.mono sb);have m0:=BX.cell 0 rfl;have m1:=BX.cell 1 rfl;have m2:=BX.cell 2 rfl;have m3:=BX.cell 3 rfl;have m4:=BX.cell 4 rfl;have m5:=BX.cell 5 rfl;have C:=whole_any (fun g hg=>by have:=HD.out g hg;have:=hb1.size;omega) (HV.out.agree (Agree.of hb1 HD.out));clear ho hbr
    go_wp2_with fail
    refine C.mono ?_;rintro e w3 ⟨n,ok,rfl,HTI,k3⟩;have hno:=tells_whole hq0 (by omega) (show TellsInt (wholeT q) n ok by rw [← HT.out];exact HTI.out);obtain ⟨rfl,rfl⟩:=hno;clear C m0 m1 m2 m3 m4 m5 BX HTI HT;have ho2:=row_below ho1 k3 (Nat.le_refl _);have hbb:=hb1.trans (k3.mono hb1.size);have sz2:=hbb.size;clear ho1 hb1 kx
    go_wp2_with (at_builtin;refine wpList_append_own _ rfl _ _ 23 rfl W.heap.size 3 i0 (.int .i64 0) 1 8 Tryz.underlying23 hi0 hz0 hz1 hz2 rfl (by decide) _ i (((l.take 4096).take i).map (Value.int .i64)) rfl (ho2.alloc _) ⟨w3.heap.size,0,none⟩ 1 1 [.int .i64 n] rfl rfl (cells_new w3 #[.int .i64 n] _) (by intro u hu;simp at hu;subst hu;rfl) (by unfold maxLen;omega) (by omega) (by simp;omega) ?_)
    intro v' w4 hown hgr _;obtain ⟨a4,c4,rfl⟩:=row_form3 hown;have hrow:∀ k,(Value.slice a i c).ownBlock=some k→W.heap.size≤k:=fun k e=>(row_own ho2 k e).1;have hb4:Below W.heap.size W w4:=(hbb.trans ((below_alloc w3 (.cells #[.int .i64 n] 3)).mono sz2)).grown hgr (by simp;omega) hrow;have HO4:Hid (w4.ownsRow W.heap.size 3 1 (.slice a4 (i+1) c4) (i+1) (((l.take 4096).take (i+1)).map (Value.int .i64))):=by
     unfold Hid;rw [← HQ.out,List.map_append];simp only [List.map_take,List.map_cons,List.map_nil];exact hown
    clear hown hgr ho2;go_wp2
    go_roundw
    case rel=>exact ⟨i+1,a4,c4,by go_num,rfl,by omega,HO4.out,hb4⟩
    case measure=>simp [intOf];omega
  · obtain rfl:i=n2:=by omega
    have HO:Hid (RdN (Fr W.heap.size wr.heap.size) wr (.slice a i c) (l.take 4096)):=by
     rw [List.take_of_length_le (by have:=HMl.out;omega)] at ho;have:=rdN_own (l:=l.take 4096) (a:=a) (c:=c) (fun x hx=>HIn.out x (List.mem_of_mem_take hx)) (by rw [HMl.out];exact ho);rw [HMl.out] at this;exact this
    clear ho;go_wp2
    go_ret2
    exact ⟨a,c,by rw [HMl.out];rfl,by rw [HMl.out];exact HO.out,hbr⟩
end
end Go.Proofs.YtheaeggecpfcbaaGreat
