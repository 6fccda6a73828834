/- ShapeDrops' walk. -/
import Derived.Test.YtheaeggecpfcbaaGreatI6
import Derived.Test.YtheaeggecpfcbaaGreatI5
import Derived.Test.YtheaeggecpfcbaaGreatHC
set_option maxRecDepth 100000
set_option maxHeartbeats 3200000
set_option linter.unusedVariables false
set_option linter.unusedSimpArgs false
namespace Go.Proofs.YtheaeggecpfcbaaGreat
open Go.RowKit
theorem shapeDrops_walk (hL:Live6OK) {f:Nat} {D:Nat→Prop} {w:World} {a2:Option Addr} {c2 n m:Nat} {l:List Tr} (hD:∀ g,D g→g<w.heap.size) (hR:RowB D l.length (.slice a2 l.length c2) (fun g o j=>ItC (ArV f D w) D w g (o+j*6) (l.getD j tr0))) (hs:l.length*96≤140737488355328) (hn:n≤255) (hm:m≤255) :
    Calls Tryz.prog 7 #[.slice a2 l.length c2,.int .u8 n,.int .u8 m] w fun e w'=>e=.returned (.bool true)∧Below w.heap.size w w':=by
 have HL:Hid Live6OK:=hL;have HD:Hid (∀ g,D g→g<w.heap.size):=hD;have HR:Hid (RowB D l.length (.slice a2 l.length c2) (fun g o j=>ItC (ArV f D w) D w g (o+j*6) (l.getD j tr0))):=hR;have HSz:Hid (l.length*96≤140737488355328):=hs;have hl2:l.length≤9223372036854775807:=by omega
 obtain ⟨L,hLl⟩:∃ L,l.length=L:=⟨_,rfl⟩;have HLL:Hid (l.length=L):=hLl;have k0:=below_alloc w (.cells #[.int .i64 L] 3);have X0:=boxA_new w #[.int .i64 L] 3;have s0:(w.alloc (.cells #[.int .i64 L] 3)).heap.size=w.heap.size+1:=by simp
 rw [hLl] at hl2 ⊢;clear hD hR hL hs hLl;go_enter Tryz.func7,Tryz.ntmps7
 go_wp2_with fail
 generalize hAA:w.alloc (.cells #[.int .i64 L] 3)=v at *;clear hAA;have C1:=make_vec (w:=v) (f:=f) (D:=fun g=>D g∨g=w.heap.size) (l:=l) (x1:=some ⟨w.heap.size,0,none⟩) (y1:=1) (a2:=a2) (c2:=c2)
  (by rw [HLL.out];exact rdN_box (xs:=[(L:Int)]) X0 (Or.inr rfl) (fun x hx=>by have h:=List.mem_singleton.1 hx;omega) (by simp))
  (RowB.imp HR.out (fun g hg=>Or.inl hg) (fun g o j hg hj hc=>hc.imp hg (fun g hg=>Or.inl hg) (Agree.of k0 HD.out) (fun _ _ _ h=>ArV.imp (fun g hg=>Or.inl hg) (Agree.of k0 HD.out) f f _ _ _ (Nat.le_refl _) h)))
  (fun g hg=>by
   rcases hg with hg | hg
   · have:=HD.out g hg
     omega
   · omega) HSz.out
 rw [HLL.out] at C1;refine C1.mono ?_;rintro e w1 ⟨hcase,q1⟩;clear C1;have s1:=q1.size;have kw1:=k0.trans (q1.mono (by omega));rcases hcase with ⟨ek,hek,rfl⟩ | ⟨z1,u1,z2,u2,h0,rfl,hv,hr⟩
 · have hne:(ek==0)=false:=by rw [beq_eq_false_iff_ne];exact hek
   have hdn:¬ ek=0:=hek;have kA:=below_alloc w1 (.cells #[.slice none 0 0,.slice none 0 0] 25);have sA:(w1.alloc (.cells #[.slice none 0 0,.slice none 0 0] 25)).heap.size=w1.heap.size+1:=by simp
   go_wp2_with fail
   refine (HL.out _).mono ?_;rintro e w5 ⟨rfl,q5⟩;go_wp2
   go_ret
   exact ⟨rfl,(kw1.trans (kA.mono (by omega))).trans (q5.mono (by omega))⟩
 · have HV:Hid (ArV (f+1) (Fr v.heap.size w1.heap.size) w1 (.slice z1 1 u1) (.slice z2 L u2) (arrT [(L:Int)] l)):=hv
   have HM:Hid ((measF 16 (arrT [(L:Int)] l)).isSome=true):=hr;clear hv hr;have kB:=below_alloc w1 (.cells #[.slice z1 1 u1,.slice z2 L u2] 25);have BX:=boxA_new w1 #[.slice z1 1 u1,.slice z2 L u2] 25;have sB:(w1.alloc (.cells #[.slice z1 1 u1,.slice z2 L u2] 25)).heap.size=w1.heap.size+1:=by simp
   go_wp2_with fail
   obtain ⟨T,hT⟩:∃ T,arrT [(L:Int)] l=T:=⟨_,rfl⟩;have HNS:Hid (T.ns=[(L:Int)]):=by unfold Hid;rw [← hT];rfl
   have HKL:Hid (T.kids.length=L):=by unfold Hid;rw [← hT];exact HLL.out
   rw [hT] at HV HM;clear hT;obtain ⟨w2,hw2⟩:∃ w2,w1.alloc (.cells #[.slice z1 1 u1,.slice z2 L u2] 25)=w2:=⟨_,rfl⟩;rw [hw2] at kB BX sB ⊢;clear hw2;have kw2:=kw1.trans (kB.mono (by omega));have HV2:Hid (ArV (f+1) (Fr v.heap.size w2.heap.size) w2 (.slice z1 1 u1) (.slice z2 T.kids.length u2) T):=by
    unfold Hid;rw [HKL.out];exact ArV.imp (fun g hg=>⟨hg.1,by have:=hg.2;omega⟩) (fun g hg=>kB.block g hg.2) (f+1) (f+1) _ _ _ (Nat.le_refl _) HV.out
   clear HV;have KD:∀ (t:Tr) (K:Nat) (x1 x2:Option Addr) (y1 y2 q:Nat) (wb:World),q≤510→v.heap.size≤wb.heap.size→Hid (ArV (f+1) (Fr v.heap.size wb.heap.size) wb (.slice x1 1 y1) (.slice x2 t.kids.length y2) t)→(measF 16 t).isSome=true→t.ns=[(K:Int)] →
       Hid (∀ u k s,Below wb.heap.size wb u→Hid (s.ns.length=0∧s.kids.length=1∧ArV 1 (Fr wb.heap.size u.heap.size) u (.slice none 0 0) (.slice (some ⟨k,0,none⟩) 1 1) s∧IntW s (q:Int))→Calls Tryz.prog 11 #[.agg #[.int .i64 1,.bool false,.slice none 0 0,.slice none 0 0,.int .i64 0],.int .i32 8595,.agg #[.slice none 0 0,.slice (some ⟨k,0,none⟩) 1 1],.agg #[.slice x1 1 y1,.slice x2 t.kids.length y2]] u fun e w'=>(∃ z1 u1 z2 u2,e=.returned (.tuple #[.agg #[.slice z1 1 u1,.slice z2 (dropT q t).kids.length u2],.int .i64 0])∧Hid (ArV (f+1) (Fr u.heap.size w'.heap.size) w' (.slice z1 1 u1) (.slice z2 (dropT q t).kids.length u2) (dropT q t)))∧Below u.heap.size u w'):=by
    intro t K x1 x2 y1 y2 q wb hq hvb hA hm hns u k s hk hs;obtain ⟨_,_,hi,hse,hsm⟩:=hs.out;subst hse;have su:=hk.size;have C:=dyadic_drop (w:=u) (D:=fun g=>v.heap.size≤g∧g<u.heap.size) (f:=f) (t:=t) (n:=q) (L:=K) (x1:=x1) (x2:=x2) (y1:=y1) (y2:=y2) (a1:=none) (b1:=0) (a2:=some ⟨k,0,none⟩) (b2:=1) (eb:=false) (e1:=none) (e2:=none) (m1:=0) (c1:=0) (m2:=0) (c2:=0) (pp:=0) (fun g hg=>hg.2) (by omega)
     (ArV.imp (fun g hg=>⟨by have:=hg.1;omega,hg.2⟩) (fun _ _=>rfl) 1 (f+1) _ _ _ (by omega) hi) hsm (ArV.imp (fun g hg=>⟨hg.1,by have:=hg.2;omega⟩) (fun g hg=>hk.block g hg.2) (f+1) (f+1) _ _ _ (Nat.le_refl _) hA.out) hm hns
    refine C.mono ?_;rintro e w' ⟨z1,u1,z2,u2,rfl,hv,hb⟩;exact ⟨⟨z1,u1,z2,u2,rfl,hv⟩,hb⟩
   have hc1:Hid (∀ {w':World},Below w2.heap.size w2 w'→w'.cell? ⟨w1.heap.size,0,none⟩=some (.slice z1 1 u1)∧w'.cell? ⟨w1.heap.size,1,none⟩=some (.slice z2 L u2)):=fun k=>⟨(BX.below k (by omega)).cell 0 rfl,(BX.below k (by omega)).cell 1 rfl⟩;have K1:=KD T L z1 z2 u1 u2 n w2 (by omega) (by omega) HV2 HM.out HNS.out;rw [HKL.out] at K1;obtain ⟨l1,hl1⟩:∃ l1,(dropT n T).kids.length=l1:=⟨_,rfl⟩;have HL1:Hid ((dropT n T).kids.length=l1):=hl1;rw [hl1] at K1;clear hl1;refine wp_region_noPanic ?_;refine td_4 (n:=(n:Int)) (kk:=w1.heap.size) (F:=f+1) (U:=dropT n T) hc1 (by omega) (by omega) (by omega) K1 ?_;intro A k p1 v1 p2 v2 w3 BA hA1 HW k3;have s3:=k3.size;have kw3:=kw2.trans (k3.mono (by omega));have lA:=BA.lt;clear K1
   go_wp2_with fail
   have HV3:Hid (ArV (f+1) (Fr v.heap.size w3.heap.size) w3 (.slice p1 1 v1) (.slice p2 (dropT n T).kids.length v2) (dropT n T)):=by
    unfold Hid;rw [HL1.out];exact ArV.imp (fun g hg=>⟨by have:=hg.1;omega,hg.2⟩) (fun _ _=>rfl) (f+1) (f+1) _ _ _ (Nat.le_refl _) HW.out
   clear HW;have hc2:Hid (∀ {w':World},Below w3.heap.size w3 w'→w'.cell? ⟨A,0,none⟩=some (.slice p1 1 v1)∧w'.cell? ⟨A,1,none⟩=some (.slice p2 l1 v2)):=fun k=>⟨(BA.below k lA).cell 0 rfl,(BA.below k lA).cell 1 rfl⟩;have K2:=KD (dropT n T) (L - n) p1 p2 v1 v2 m w3 (by omega) (by omega) HV3 (dropT_right HM.out HNS.out) (dropT_ns HM.out HNS.out);rw [HL1.out] at K2;obtain ⟨l2,hl2⟩:∃ l2,(dropT m (dropT n T)).kids.length=l2:=⟨_,rfl⟩;rw [hl2] at K2;clear hl2;refine wp_region_noPanic ?_;refine td_5 (n:=(m:Int)) (kk:=A) (F:=f+1) (U:=dropT m (dropT n T)) hc2 (by omega) (by omega) (by omega) K2 ?_;intro A2 k' r1 t1 r2 t2 w4 BB hB1 HW2 k4;have s4:=k4.size;have kw4:=kw3.trans (k4.mono (by omega));have lB:=BB.lt;clear K2 hc2
   go_wp2_with fail
   have BX3:=(BX.below k3 (by omega)).below k4 (by omega);have HV4:Hid (ArV (f+1) (Fr v.heap.size w4.heap.size) w4 (.slice z1 1 u1) (.slice z2 T.kids.length u2) T):=ArV.imp (fun g hg=>⟨hg.1,by have:=hg.2;omega⟩) (fun g hg=>(k3.trans (k4.mono s3)).block g hg.2) (f+1) (f+1) _ _ _ (Nat.le_refl _) HV2.out;have hc3:Hid (∀ {w':World},Below w4.heap.size w4 w'→w'.cell? ⟨w1.heap.size,0,none⟩=some (.slice z1 1 u1)∧w'.cell? ⟨w1.heap.size,1,none⟩=some (.slice z2 L u2)):=fun k=>⟨(BX3.below k (by omega)).cell 0 rfl,(BX3.below k (by omega)).cell 1 rfl⟩;have K3:=KD T L z1 z2 u1 u2 (n+m) w4 (by omega) (by omega) HV4 HM.out HNS.out;rw [HKL.out,show ((n+m:Nat):Int)=(n:Int)+(m:Int) from by push_cast;rfl] at K3;obtain ⟨l3,hl3⟩:∃ l3,(dropT (n+m) T).kids.length=l3:=⟨_,rfl⟩;rw [hl3] at K3;clear hl3;refine wp_region_noPanic ?_;refine td_6 (n:=(n:Int)) (m:=(m:Int)) (kk:=w1.heap.size) (F:=f+1) (U:=dropT (n+m) T) hc3 (by omega) (by omega) (by omega) (by omega) K3 ?_;intro A3 k'' i1 j1 i2 j2 w5 BC hC1 HW3 k5;have s5:=k5.size;have kw5:=kw4.trans (k5.mono (by omega));have lC:=BC.lt;have BB5:=BB.below k5 lB;clear K3 hc3 hc1 BX BX3 BA X0;have hge:(((n:Int)+(m:Int)) ≥ (L:Int))↔L≤n+m:=by omega
   have HN2:Hid ((dropT m (dropT n T)).ns=[((L - n - m:Nat):Int)]):=dropT_ns (dropT_right HM.out HNS.out) (dropT_ns HM.out HNS.out);have HN3:Hid ((dropT (n+m) T).ns=[((L - (n+m):Nat):Int)]):=dropT_ns HM.out HNS.out;by_cases hc:L≤n+m
   · have hd1:decide ((L:Int)≤(n:Int)+(m:Int))=true:=decide_eq_true (by omega)
     have hd2:(L:Int)≤(n:Int)+(m:Int):=by omega
     have hd3:((n:Int)+(m:Int)) ≥ (L:Int):=by omega
     go_wp2_with fail
     have h2:RdN (Fr w3.heap.size w4.heap.size) w4 (.slice r1 [(0:Int)].length t1) [(0:Int)]:=by
      have h:=HW2.out.1;rw [HN2.out,show L - n - m=0 by omega] at h;exact h
     have h3:RdN (Fr w4.heap.size w5.heap.size) w5 (.slice i1 [(0:Int)].length j1) [(0:Int)]:=by
      have h:=HW3.out.1;rw [HN3.out,show L - (n+m)=0 by omega] at h;exact h
     obtain ⟨g2,o2,rfl,hg2,hx2⟩:=h2.ptr (by decide);obtain ⟨g3,o3,rfl,hg3,hx3⟩:=h3.ptr (by decide);have y2:w4.cell? ⟨g2,o2,none⟩=some (.int .i64 0):=hx2 0 (by decide);have y3:w5.cell? ⟨g3,o3,none⟩=some (.int .i64 0):=hx3 0 (by decide);have lg2:g2<w4.heap.size:=hg2.2;have lg3:g3<w5.heap.size:=hg3.2;refine (HL.out _).mono ?_;rintro e w6 ⟨rfl,q6⟩;have s6:=q6.size;have BB6:=BB5.below q6 (by omega);have BC6:=BC.below q6 (by omega);have c0:=BB6.cell 0 rfl;have c1:=BC6.cell 0 rfl;have Y2:=(q6.cell (p:=⟨g2,o2,none⟩) (show g2<w5.heap.size by omega)).trans ((k5.cell (p:=⟨g2,o2,none⟩) lg2).trans y2);have Y3:=(q6.cell (p:=⟨g3,o3,none⟩) lg3).trans y3;clear h2 h3 hx2 hx3 y2 y3;go_wp2
     go_ret
     exact ⟨rfl,kw5.trans (q6.mono (by omega))⟩
   · have hd1:decide ((L:Int)≤(n:Int)+(m:Int))=false:=decide_eq_false (by omega)
     have hd2:¬ (L:Int)≤(n:Int)+(m:Int):=by omega
     have hd3:¬ ((n:Int)+(m:Int)) ≥ (L:Int):=by omega
     go_wp2_with fail
     have hU:dropT m (dropT n T)=dropT (n+m) T:=dropT_twice HM.out HNS.out (by omega);have hV2:=HW2.out;rw [hU] at hV2;have HS:Hid (∀ w',Below w5.heap.size w5 w'→Calls Tryz.prog 13 #[.agg #[.slice r1 1 t1,.slice r2 l2 t2],.agg #[.slice i1 1 j1,.slice i2 l3 j2]] w' fun e w''=>e=.returned (.bool true)∧Below w'.heap.size w' w''):=fun w' k=>
      same_all (f+1) (fun g=>g<w'.heap.size) w' _ _ _ _ _ _ _ _ _ _ _ _ (dropT (n+m) T) (fun g hg=>hg) (ArV.imp (fun g hg=>by have:=hg.2;have:=k.size;omega) (fun g hg=>by rw [k.block g (by have:=hg.2;omega)];exact k5.block g hg.2) (f+1) (f+1) _ _ _ (Nat.le_refl _) hV2) (ArV.imp (fun g hg=>by have:=hg.2;have:=k.size;omega) (fun g hg=>k.block g hg.2) (f+1) (f+1) _ _ _ (Nat.le_refl _) HW3.out)
     clear hV2 hU;refine (HL.out _).mono ?_;rintro e w6 ⟨rfl,q6⟩;have s6:=q6.size;have BB6:=BB5.below q6 (by omega);have BC6:=BC.below q6 (by omega);have c0:=BB6.cell 0 rfl;have c1:=BB6.cell 1 rfl;have c2:=BC6.cell 0 rfl;have c3:=BC6.cell 1 rfl;have CS:=HS.out w6 q6
     go_wp2_with fail
     refine CS.mono ?_;rintro e w7 ⟨rfl,q7⟩;clear CS;go_wp2
     go_ret
     exact ⟨rfl,(kw5.trans (q6.mono (by omega))).trans (q7.mono (by omega))⟩
end Go.Proofs.YtheaeggecpfcbaaGreat
