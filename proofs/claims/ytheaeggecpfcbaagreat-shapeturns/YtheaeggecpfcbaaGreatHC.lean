/- ShapeTurns' walk. -/
import Derived.Test.YtheaeggecpfcbaaGreatHB
import Derived.Test.YtheaeggecpfcbaaGreatM4
import Derived.Test.YtheaeggecpfcbaaGreatR4
set_option maxRecDepth 100000
set_option maxHeartbeats 3200000
set_option linter.unusedVariables false
set_option linter.unusedSimpArgs false
namespace Go.Proofs.YtheaeggecpfcbaaGreat
open Go.RowKit
def Live6OK:Prop:=∀ w:World,Calls Tryz.prog 9 #[] w fun e w'=>e=.returned (.bool true)∧Below w.heap.size w w'
theorem rotT_right {n:Int} {t:Tr} (h:(measF 16 t).isSome=true):(measF 16 (rotT n t)).isSome=true:=(make_fit (sh:=t.ns) (l:=t.kids) (l':=rotI n t.ns t.kids) h (rotI_perm _ _ _)).2.2.2.1
theorem rotT_add {n m:Int} {t:Tr} (h:(measF 16 t).isSome=true):rotT m (rotT n t)=rotT (n+m) t:=by
 obtain ⟨_,_,_,hE,hk,_,_⟩:=measF_some h;show arrT t.ns (rotI m t.ns (rotI n t.ns t.kids))=arrT t.ns (rotI (n+m) t.ns t.kids);rw [rotI_add hE hk]
theorem shapeTurns_walk (hL:Live6OK) {f:Nat} {D:Nat→Prop} {w:World} {x1 x2:Option Addr} {y1 y2:Nat} {t:Tr} {n m:Int} (hD:∀ g,D g→g<w.heap.size) (hA:ArV (f+1) D w (.slice x1 t.ns.length y1) (.slice x2 t.kids.length y2) t) (hn:-32768≤n∧n≤32767) (hm:-32768≤m∧m≤32767) :
    Calls Tryz.prog 6 #[.agg #[.slice x1 t.ns.length y1,.slice x2 t.kids.length y2],.int .i16 n,.int .i16 m] w fun e w'=>e=.returned (.bool true)∧Below w.heap.size w w':=by
 have HL:Hid Live6OK:=hL;have HD:Hid (∀ g,D g→g<w.heap.size):=hD;have HA:Hid (ArV (f+1) D w (.slice x1 t.ns.length y1) (.slice x2 t.kids.length y2) t):=hA;have k0:=below_alloc w (.cells #[.slice x1 t.ns.length y1,.slice x2 t.kids.length y2] 25);have X0:=boxA_new w #[.slice x1 t.ns.length y1,.slice x2 t.kids.length y2] 25;have s0:(w.alloc (.cells #[.slice x1 t.ns.length y1,.slice x2 t.kids.length y2] 25)).heap.size=w.heap.size+1:=by simp
 have z0:=X0.cell 0 rfl;have z1:=X0.cell 1 rfl;clear hD hA hL;go_enter Tryz.func6,Tryz.ntmps6
 go_wp2_with fail
 generalize hAA:w.alloc (.cells #[.slice x1 t.ns.length y1,.slice x2 t.kids.length y2] 25)=v at *;clear hAA;have C1:=refRight3_any (fun g hg=>by have:=HD.out g hg;omega) (HA.out.agree (Agree.of k0 HD.out));refine C1.mono ?_;rintro e w1 ⟨rfl,q1⟩;clear C1 z0 z1;have s1:=q1.size;have kw1:=k0.trans (q1.mono (by omega));have X1:=X0.below q1 (by omega);by_cases hr:(measF 16 t).isSome=true
 · have HM:Hid ((measF 16 t).isSome=true):=hr
   rw [hr];clear hr
   go_wp2_with fail
   have hc1:Hid (∀ {w':World},Below w1.heap.size w1 w'→w'.cell? ⟨w.heap.size,0,none⟩=some (.slice x1 t.ns.length y1)∧w'.cell? ⟨w.heap.size,1,none⟩=some (.slice x2 t.kids.length y2)):=fun k=>⟨(X1.below k (by omega)).cell 0 rfl,(X1.below k (by omega)).cell 1 rfl⟩;refine wp_region_noPanic ?_;refine tu_3 (n:=n) (kk:=w.heap.size) (F:=f+1) (U:=rotT n t) hc1 (by omega) (by omega) hn (fun u k s hk hs => ?_) ?_
   · have kw:=kw1.trans (hk.mono (by omega))
     have C:=dyadic_rot (w:=u) (D:=fun g=>D g∨(w1.heap.size≤g∧g<u.heap.size)) (f:=f) (t:=t) (s:=s) (n:=n) (x1:=x1) (x2:=x2) (y1:=y1) (y2:=y2) (a1:=none) (b1:=0) (a2:=some ⟨k,0,none⟩) (b2:=1) (eb:=false) (e1:=none) (e2:=none) (m1:=0) (c1:=0) (m2:=0) (c2:=0) (pp:=0) (fun g hg=>by
      rcases hg with hg | hg
      · have:=HD.out g hg
        have:=kw.size;omega
      · exact hg.2) (ArV.imp (fun g hg=>Or.inl hg) (Agree.of kw HD.out) (f+1) (f+1) _ _ t (Nat.le_refl _) HA.out) HM.out (by rw [hs.out.1,hs.out.2.1];exact ArV.imp (fun g hg=>Or.inr hg) (fun _ _=>rfl) 1 (f+1) _ _ s (by omega) hs.out.2.2.1) hs.out.2.2.2
     rw [hs.out.1,hs.out.2.1] at C;refine C.mono ?_;rintro e w' ⟨z1,u1,z2,u2,rfl,hv,hb⟩;exact ⟨⟨z1,u1,z2,u2,rfl,hv⟩,hb⟩
   intro A k z1 u1 z2 u2 w2 BA hA1 HV k2;have s2:=k2.size;have kw2:=kw1.trans (k2.mono (by omega));have X2:=X1.below k2 (by omega);have HV1:Hid (ArV (f+1) (Fr w1.heap.size w2.heap.size) w2 (.slice z1 (rotT n t).ns.length u1) (.slice z2 (rotT n t).kids.length u2) (rotT n t)):=by
    have e:(rotT n t).kids.length=t.kids.length:=rotI_len _ _ _;unfold Hid;rw [e];exact HV.out
   have HM1:Hid ((measF 16 (rotT n t)).isSome=true):=rotT_right HM.out;have HEK:Hid ((rotT n t).kids.length=t.kids.length):=rotI_len _ _ _;have lA:=BA.lt;clear HV
   go_wp2_with fail
   have hc2:Hid (∀ {w':World},Below w2.heap.size w2 w'→w'.cell? ⟨A,0,none⟩=some (.slice z1 t.ns.length u1)∧w'.cell? ⟨A,1,none⟩=some (.slice z2 t.kids.length u2)):=fun k=>⟨(BA.below k lA).cell 0 rfl,(BA.below k lA).cell 1 rfl⟩;refine wp_region_noPanic ?_;refine tu_4 (n:=m) (kk:=A) (F:=f+1) (U:=rotT m (rotT n t)) hc2 (by omega) (by omega) hm (fun u k s hk hs => ?_) ?_
   · have kw:=kw2.trans (hk.mono (by omega))
     have C:=dyadic_rot (w:=u) (D:=fun g=>w1.heap.size≤g∧g<u.heap.size) (f:=f) (t:=rotT n t) (s:=s) (n:=m) (x1:=z1) (x2:=z2) (y1:=u1) (y2:=u2) (a1:=none) (b1:=0) (a2:=some ⟨k,0,none⟩) (b2:=1) (eb:=false) (e1:=none) (e2:=none) (m1:=0) (c1:=0) (m2:=0) (c2:=0) (pp:=0) (fun g hg=>hg.2) (ArV.imp (fun g hg=>⟨hg.1,by have:=hg.2;have:=hk.size;omega⟩) (fun g hg=>hk.block g hg.2) (f+1) (f+1) _ _ _ (Nat.le_refl _) HV1.out) HM1.out (by rw [hs.out.1,hs.out.2.1];exact ArV.imp (fun g hg=>⟨by have:=hg.1;omega,hg.2⟩) (fun _ _=>rfl) 1 (f+1) _ _ s (by omega) hs.out.2.2.1) hs.out.2.2.2;rw [hs.out.1,hs.out.2.1,HEK.out] at C;refine C.mono ?_;rintro e w' ⟨z1,u1,z2,u2,rfl,hv,hb⟩;exact ⟨⟨z1,u1,z2,u2,rfl,hv⟩,hb⟩
   intro A2 k' p1 v1 p2 v2 w3 BB hB1 HV k3;have s3:=k3.size;have kw3:=kw2.trans (k3.mono (by omega));have X3:=X2.below k3 (by omega);have HV2:Hid (ArV (f+1) (Fr w2.heap.size w3.heap.size) w3 (.slice p1 t.ns.length v1) (.slice p2 t.kids.length v2) (rotT (n+m) t)):=by
    have h:=HV.out;rw [rotT_add HM.out] at h;exact h
   have lB:=BB.lt;clear HV HV1 HM1 HEK BA lA hc1 hc2
   go_wp2_with fail
   have hc3:Hid (∀ {w':World},Below w3.heap.size w3 w'→w'.cell? ⟨w.heap.size,0,none⟩=some (.slice x1 t.ns.length y1)∧w'.cell? ⟨w.heap.size,1,none⟩=some (.slice x2 t.kids.length y2)):=fun k=>⟨(X3.below k (by omega)).cell 0 rfl,(X3.below k (by omega)).cell 1 rfl⟩;refine wp_region_noPanic ?_;refine tu_5 (n:=n) (m:=m) (kk:=w.heap.size) (F:=f+1) (U:=rotT (n+m) t) hc3 (by omega) (by omega) hn hm (fun u k s hk hs => ?_) ?_
   · have kw:=kw3.trans (hk.mono (by omega))
     have C:=dyadic_rot (w:=u) (D:=fun g=>D g∨(w1.heap.size≤g∧g<u.heap.size)) (f:=f) (t:=t) (s:=s) (n:=n+m) (x1:=x1) (x2:=x2) (y1:=y1) (y2:=y2) (a1:=none) (b1:=0) (a2:=some ⟨k,0,none⟩) (b2:=1) (eb:=false) (e1:=none) (e2:=none) (m1:=0) (c1:=0) (m2:=0) (c2:=0) (pp:=0) (fun g hg=>by
      rcases hg with hg | hg
      · have:=HD.out g hg
        have:=kw.size;omega
      · exact hg.2) (ArV.imp (fun g hg=>Or.inl hg) (Agree.of kw HD.out) (f+1) (f+1) _ _ t (Nat.le_refl _) HA.out) HM.out (by rw [hs.out.1,hs.out.2.1];exact ArV.imp (fun g hg=>Or.inr ⟨by have:=hg.1;omega,hg.2⟩) (fun _ _=>rfl) 1 (f+1) _ _ s (by omega) hs.out.2.2.1) hs.out.2.2.2
     rw [hs.out.1,hs.out.2.1] at C;refine C.mono ?_;rintro e w' ⟨z1,u1,z2,u2,rfl,hv,hb⟩;exact ⟨⟨z1,u1,z2,u2,rfl,hv⟩,hb⟩
   intro A3 k'' r1 t1 r2 t2 w4 BC hC1 HV3 k4;have s4:=k4.size;have kw4:=kw3.trans (k4.mono (by omega));have BB4:=BB.below k4 lB;have lC:=BC.lt;have HS:Hid (∀ w',Below w4.heap.size w4 w'→Calls Tryz.prog 13 #[.agg #[.slice p1 t.ns.length v1,.slice p2 t.kids.length v2],.agg #[.slice r1 t.ns.length t1,.slice r2 t.kids.length t2]] w' fun e w''=>e=.returned (.bool true)∧Below w'.heap.size w' w''):=fun w' k=>
    same_all (f+1) (fun g=>g<w'.heap.size) w' _ _ _ _ _ _ _ _ _ _ _ _ (rotT (n+m) t) (fun g hg=>hg) (ArV.imp (fun g hg=>by have:=hg.2;have:=k.size;omega) (fun g hg=>by rw [k.block g (by have:=hg.2;omega)];exact k4.block g hg.2) (f+1) (f+1) _ _ _ (Nat.le_refl _) HV2.out) (ArV.imp (fun g hg=>by have:=hg.2;have:=k.size;omega) (fun g hg=>k.block g hg.2) (f+1) (f+1) _ _ _ (Nat.le_refl _) HV3.out)
   clear X0 X1 X2 X3 hc3 HV2 HV3
   go_wp2_with fail
   refine (HL.out w4).mono ?_;rintro e w5 ⟨rfl,q5⟩;have s5:=q5.size;have BB5:=BB4.below q5 (by omega);have BC5:=BC.below q5 (by omega);have c0:=BB5.cell 0 rfl;have c1:=BB5.cell 1 rfl;have c2:=BC5.cell 0 rfl;have c3:=BC5.cell 1 rfl;have CS:=HS.out w5 q5
   go_wp2_with fail
   refine CS.mono ?_;rintro e w6 ⟨rfl,q6⟩;clear CS;go_wp2
   go_ret
   exact ⟨rfl,(kw4.trans (q5.mono (by omega))).trans (q6.mono (by omega))⟩
 · have hrf:(measF 16 t).isSome=false:=by simpa using hr
   rw [hrf];clear hr hrf
   go_wp2_with fail
   refine (HL.out w1).mono ?_;rintro e w5 ⟨rfl,q5⟩;go_wp2
   go_ret
   exact ⟨rfl,kw1.trans (q5.mono (by omega))⟩
end Go.Proofs.YtheaeggecpfcbaaGreat
