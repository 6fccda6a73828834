/- What + of 0 and × of 1 tell of an array: the array itself, or an error of both. -/
import Derived.Test.YtmijanocljmaeaaGreatQ2
import Derived.Test.YtmijanocljmaeaaGreatPA
import Derived.Test.YtmijanocljmaeaaGreatR4
import Derived.Test.YtmijanocljmaeaaGreatK7
import Derived.Test.YtmijanocljmaeaaGreatKE
set_option maxRecDepth 100000
set_option maxHeartbeats 3200000
set_option linter.unusedVariables false
set_option linter.unusedSimpArgs false
namespace Go.Proofs.YtmijanocljmaeaaGreat
open Go.RowKit
theorem wholeT_one:wholeT 1=numT false [1] [1]:=rfl
theorem whole1_num:NumOK (wholeT 1):=by
 rw [wholeT_one];exact ⟨rfl,⟨by show ([1]:List Int).length≤32;simp,by show ([1]:List Int).length≤32;simp,can_one,can_one,by show ¬ (false=true∧_);simp,by show 0<([1]:List Int).length;simp,by show gI (val [1]) (val [1])=1;rw [one_val];exact gI_one_right _⟩,rfl,rfl⟩
theorem scalar_right1:(measF 16 (arrT [] [wholeT 1])).isSome=true:=by
 rw [measF,if_pos ⟨by decide,by decide⟩];have e:(arrT [] [wholeT 1]).kids=[wholeT 1]:=rfl;rw [e,measL,measI_num whole1_num.k ⟨whole1_num.r,whole1_num.c,whole1_num.z⟩];show (match measL (measI (measF 15)) [] (max 1 (1+0),1+0) with
  | none=>none
  | some p=>some (if simpB (arrT [] [wholeT 1])=true then 0 else p.1,p.2)).isSome=true
 rw [measL];rfl
theorem fit_plus_zero:FitOK (fun _ y=>y=wholeT 0) (lookD plusD) 0 sameM∧FitOK (fun _ y=>y=wholeT 0) plusD 16384 sameM:=
 fitOK_of (fun _ _=>rfl) (fun _ _=>rfl) (fun x y hx hy=>by
  subst hy;show ratOp (sg x.b (val x.ns)*val (wholeT 0).ds+sg (wholeT 0).b (val (wholeT 0).ns)*val x.ds) (val x.ds*val (wholeT 0).ds)=(0,numT x.b x.ns x.ds);rw [wholeT_zero];have e1:sg (numT false [] [1]).b (val (numT false [] [1]).ns)=0:=by simp [sg,val,numT,Tr.ns,Tr.b]
  have e2:val (numT false [] [1]).ds=1:=one_val;rw [e1,e2,Int.mul_one,Int.zero_mul,Int.add_zero,Int.mul_one];exact ratOp_same hx.r)
theorem fit_times_one:FitOK (fun _ y=>y=wholeT 1) (lookD timesD) 0 sameM∧FitOK (fun _ y=>y=wholeT 1) timesD 16384 sameM:=
 fitOK_of (fun _ _=>rfl) (fun _ _=>rfl) (fun x y hx hy=>by
  subst hy;show ratOp (sg x.b (val x.ns)*sg (wholeT 1).b (val (wholeT 1).ns)) (val x.ds*val (wholeT 1).ds)=(0,numT x.b x.ns x.ds);rw [wholeT_one];have e0:val (numT false [1] [1]).ns=1:=one_val;have e1:sg (numT false [1] [1]).b (val (numT false [1] [1]).ns)=1:=by rw [e0];rfl
  have e2:val (numT false [1] [1]).ds=1:=one_val;rw [e1,e2,Int.mul_one,Int.mul_one];exact ratOp_same hx.r)
/-- Where so many pairs tell no error, each of them does not. -/
theorem stS_fine {it:Nat→Nat→Int×Nat×Tr} {K c0:Nat}:∀ n,(stS it K c0 n).1=0→∀ i,i<n→∃ c,(it i c).1=0
 | 0,_,i,hi=>by omega
 | n+1,h,i,hi=>by
  by_cases h0:(stS it K c0 n).1=0
  · by_cases hr:(it n ((stS it K c0 n).2.1+1)).1=0
    · by_cases hin:i<n
      · exact stS_fine n h0 i hin
      · obtain rfl:i=n:=by omega
        exact ⟨_,hr⟩
    · rw [stS_no h0 hr] at h
      exact absurd h hr
  · rw [stS,if_neg h0] at h
    exact absurd h h0
theorem stM_fine {it:Nat→Int×Tr}:∀ n,(∀ i,i<n→(it i).1=0)→(stM it n).1=0
 | 0,_=>rfl
 | n+1,h=>by rw [stM_ok (stM_fine n (fun i hi=>h i (by omega))) (h n (by omega))]
/-- Where a function of numbers alone tells no error of an array and a number, the array holds numbers alone. -/
theorem thruS_fine {d:Dy} {K:Nat} {m:Mo} {k:Int} (hgl:d.gl≠61∧d.gl≠8800) (hm:∀ x,NumOK x→(m.op x).1=0):∀ (L c:Nat) (t:Tr),(measF L t).isSome=true→(thruS d K L c t (arrT [] [wholeT k]) t.ns).1=0→(thruM m L t).1=0
 | 0,c,t,h,_=>by rw [measF] at h;cases h
 | L+1,c,t,h,h0=>by
  obtain ⟨LA,eA,hl8,hs2,hkl,hk4,okA⟩:=measF_some h;obtain rfl:LA=L:=by omega
  rw [thruS] at h0;rw [thruM];by_cases hz:t.ns.contains 0=true
  · rw [if_pos hz]
  · have hn0:=size_nonneg t.ns
    have hsz:¬ (sizeF t.ns).1=0:=fun e=>hz (zero_of_size hs2 e);have hnn:(sizeF t.ns).1.toNat=t.kids.length:=by omega
    rw [if_neg hz];rw [if_neg (show ¬ (sizeF t.ns).1.toNat=0 by omega),hnn] at h0;dsimp only at h0 ⊢;by_cases hs:(stS (fun i c=>itemS (thruS d K LA) d K c (t.kids.getD (i % t.kids.length) tr0) ((arrT [] [wholeT k]).kids.getD (i % (arrT [] [wholeT k]).kids.length) tr0)) K c t.kids.length).1=0
    · have hf:=stS_fine _ hs
      have hM:(stM (fun i=>itemM (thruM m LA) m (t.kids.getD i tr0)) t.kids.length).1=0:=by
       refine stM_fine _ (fun i hi => ?_);obtain ⟨c',hc⟩:=hf i hi;have hy:(arrT [] [wholeT k]).kids.getD (i % (arrT [] [wholeT k]).kids.length) tr0=wholeT k:=by
        show [wholeT k].getD (i % 1) tr0=wholeT k;rw [Nat.mod_one];rfl
       rw [hy,Nat.mod_eq_of_lt hi] at hc;have hok:=okA _ (getD_memI hi);obtain ⟨x,hx⟩:∃ x,t.kids.getD i tr0=x:=⟨_,rfl⟩;rw [hx] at hok hc ⊢;have ek:(wholeT k).k=1:=rfl;rcases measI_cases hok with ⟨hk,hr,hcx,hzx⟩ | ⟨hk,_⟩ | ⟨hk,_,_,_,_,hM⟩
       · unfold itemM
         rw [if_neg (by omega),if_neg (by omega),toldM_er'];exact hm x ⟨hk,hr,hcx,hzx⟩
       · exfalso
         unfold itemS at hc;rw [if_neg (by rw [ek,hk];decide),if_neg (by rw [hk];omega),if_neg (by omega)] at hc;simp at hc
       · have hoy:openS (wholeT k)=arrT [] [wholeT k]:=rfl
         have hox:openS x=x.kids.getD 0 tr0:=by unfold openS;rw [if_pos hk]
         have htog:togS (openS x).ns (openS x).kids.length (openS (wholeT k)).ns (openS (wholeT k)).kids.length=(0,(openS x).ns):=by
          rw [hoy];exact tog_scalar _ _
         unfold itemS at hc;rw [if_pos (Or.inl hk),htog,if_pos rfl,hoy,hox] at hc;dsimp only at hc;have hr:(thruS d K LA c' (x.kids.getD 0 tr0) (arrT [] [wholeT k]) (x.kids.getD 0 tr0).ns).1=0:=by
          by_cases hr:(thruS d K LA c' (x.kids.getD 0 tr0) (arrT [] [wholeT k]) (x.kids.getD 0 tr0).ns).1=0
          · exact hr
          · rw [if_neg hr] at hc;exact absurd hc hr
         have:=thruS_fine hgl hm LA c' _ hM hr;unfold itemM;rw [if_neg (by omega),if_pos hk,toldM_er'];exact this
      rw [if_pos hM]
    · rw [if_neg hs] at h0
      exact absurd h0 hs
theorem dyadS_fine {d:Dy} {m:Mo} {k:Int} {t:Tr} (hgl:d.gl≠61∧d.gl≠8800) (hm:∀ x,NumOK x→(m.op x).1=0) (h:(dyadS d t (arrT [] [wholeT k])).1=0):(measF 16 t).isSome=true∧(thruM m 16 t).1=0:=by
 unfold dyadS at h;by_cases hR:(measF 16 t).isSome=true∧(measF 16 (arrT [] [wholeT k])).isSome=true
 · have e:togS t.ns t.kids.length (arrT [] [wholeT k]).ns (arrT [] [wholeT k]).kids.length=(0,t.ns):=tog_scalar _ _
   rw [if_pos hR,e,if_pos rfl] at h;unfold wholeS at h;dsimp only at h;by_cases h8:(thruS (lookD d) 0 (15+1) 0 t (arrT [] [wholeT k]) t.ns).1=8
   · rw [if_pos h8] at h
     exact absurd h (by decide)
   · rw [if_neg h8] at h
     exact ⟨hR.1,thruS_fine hgl hm 16 0 t hR.1 h⟩
 · rw [if_neg hR] at h
   exact absurd h (by decide)
/-- What + of 0 tells without an error: × of 1 and + alone tell it too. -/
theorem same_told {t:Tr} (ht:(measF 16 t).isSome=true) (h0:(thruM sameM 16 t).1=0) :
    dyadS plusD (arrT [] [wholeT 0]) t=(0,(thruM sameM 16 t).2)∧dyadS timesD t (arrT [] [wholeT 1])=(0,(thruM sameM 16 t).2)∧monS sameM t=(0,(thruM sameM 16 t).2)∧(measF 16 (thruM sameM 16 t).2).isSome=true:=by
 cases hp:measF 16 t with
 | none=>rw [hp] at ht;cases ht
 | some p=>
  obtain ⟨⟨p',hp',_⟩,_⟩:=thruM_right moR_same 16 t p hp h0;refine ⟨?_,?_,?_,by rw [hp'];rfl⟩
  · rw [dyadS_comm turn_plus.comm]
    exact dyadS_fit fit_plus_zero.1 fit_plus_zero.2 ht scalar_right (fit_scalar (k:=0) 16 t ht h0)
  · exact dyadS_fit fit_times_one.1 fit_times_one.2 ht scalar_right1 (fit_scalar (k:=1) 16 t ht h0)
  · unfold monS
    rw [if_pos ht];exact Prod.ext h0 rfl
theorem plus_fine {t:Tr} (h:(dyadS plusD (arrT [] [wholeT 0]) t).1=0):(measF 16 t).isSome=true∧(thruM sameM 16 t).1=0:=by
 rw [dyadS_comm turn_plus.comm] at h;exact dyadS_fine (m:=sameM) ⟨by decide,by decide⟩ (fun _ _=>rfl) h
theorem times_fine {t:Tr} (h:(dyadS timesD t (arrT [] [wholeT 1])).1=0):(measF 16 t).isSome=true∧(thruM sameM 16 t).1=0:=
 dyadS_fine (m:=sameM) ⟨by decide,by decide⟩ (fun _ _=>rfl) h
/-- Of numbers alone, in a shape with items, the very same comes. -/
theorem same_simple {f:Nat} {t:Tr} (ht:(measF 16 t).isSome=true) (h0:(thruM sameM 16 t).1=0) (hz:¬ (sizeF t.ns).1=0) (hk:∀ i,i<t.kids.length→(t.kids.getD i tr0).k=1):eqR (f+1) (thruM sameM 16 t).2 t:=by
 obtain ⟨LA,eA,_,hs2,_,_,okA⟩:=measF_some ht;obtain rfl:LA=15:=by omega
 have hz':t.ns.contains 0=false:=by
  cases hc:t.ns.contains 0 with
  | false=>rfl
  | true=>exact absurd (size_of_zero hs2 hc) hz
 obtain ⟨hl,hit⟩:=thruM_items (m:=sameM) (L:=15) hz' h0;have hns:(thruM sameM 16 t).2.ns=t.ns:=thruM_ns (m:=sameM) (L:=15) h0;refine ⟨by rw [hns],hl,fun j _=>by rw [hns],fun j hj => ?_⟩;have hj':j<t.kids.length:=by rw [← hl];exact hj
 obtain ⟨g0,g1⟩:=hit j hj';have hN:=num_right (okA _ (getD_memI hj')) (hk j hj');have e:(thruM sameM 16 t).2.kids.getD j tr0=numT (t.kids.getD j tr0).b (t.kids.getD j tr0).ns (t.kids.getD j tr0).ds:=by
  refine g1.trans ?_;unfold itemM toldM;rw [if_neg (by rw [hN.k];decide),if_neg (by rw [hN.k];decide)];rfl
 rw [e];refine ⟨hN.k.symm,hN.c.symm,⟨rfl,rfl,rfl⟩,hN.z.symm,fun i hi => ?_⟩;exact absurd hi (by show ¬ i<([]:List Tr).length;simp)
section
variable {D:Nat→Prop} {f:Nat} {W:World} {x1:Option Addr} {n1 y1:Nat} {x2:Option Addr} {n2 y2:Nat} {t:Tr}
def allNum (t:Tr):Prop:=∀ i,i<t.kids.length→(t.kids.getD i tr0).k=1
theorem simple5_any (hD:∀ g,D g→g<W.heap.size) (h:ArV f D W (.slice x1 n1 y1) (.slice x2 n2 y2) t) :
    Calls Tryz.prog 15 #[.agg #[.slice x1 n1 y1,.slice x2 n2 y2]] W fun e w'=>AnsB e (allNum t)∧Below W.heap.size W w':=by
 obtain ⟨f,rfl⟩:∃ g,f=g+1:=by
  cases f with
  | zero=>exact h.elim
  | succ g=>exact ⟨g,rfl⟩
 obtain rfl:=h.1.len;obtain rfl:=h.2.len;have H:Hid (ArV (f+1) D W (.slice x1 t.ns.length y1) (.slice x2 t.kids.length y2) t):=h;have HB:Hid (∀ g,D g→g<W.heap.size):=hD;have bd1:=h.2.bounds;clear h hD;have k1:=below_alloc W (.cells #[.slice x1 t.ns.length y1,.slice x2 t.kids.length y2] 25);have X:=boxA_new W #[.slice x1 t.ns.length y1,.slice x2 t.kids.length y2] 25;have sW:(W.alloc (.cells #[.slice x1 t.ns.length y1,.slice x2 t.kids.length y2] 25)).heap.size=W.heap.size+1:=by simp
 go_enter Tryz.func15,Tryz.ntmps15;go_wp2
 generalize hA:W.alloc (.cells #[.slice x1 t.ns.length y1,.slice x2 t.kids.length y2] 25)=v at *;clear hA
 go_loopw [3] (fun iv wr=>∃ i:Nat,iv=.int .i64 i∧i≤t.kids.length∧Below v.heap.size v wr∧Hid (∀ j,j<i→(t.kids.getD j tr0).k=1)) (fun iv _=>t.kids.length - (intOf iv).toNat)
 case atStart=>exact ⟨0,rfl,Nat.zero_le _,Below.refl _ _,fun j hj=>by omega⟩
 case round=>
  obtain ⟨i,rfl,hil,hb,HJ⟩:=hrel;have hsz:=hb.size;have X2:=X.below hb (by omega);have hbW:Below W.heap.size W wr:=k1.trans (hb.mono (by omega));have p1:=X2.cell 1 rfl;by_cases hlt:i<t.kids.length
  · obtain ⟨g1,o1,rfl,hg1,hc1⟩:=H.out.2.ptr (by omega)
    obtain ⟨a1,c1,a2,c2,a3,c3,⟨e0,_⟩,_⟩:=hc1 i hlt;have E0:=(hbW.cell (p:=⟨g1,o1+i*6,none⟩) (HB.out g1 hg1)).trans e0;clear hc1 e0;by_cases hk:(t.kids.getD i tr0).k=1
    · have hd:((t.kids.getD i tr0).k != 1)=false:=by rw [bne_eq_false_iff_eq];exact hk
      have HJ2:Hid (∀ j,j<i+1→(t.kids.getD j tr0).k=1):=fun j hj=>by
       by_cases h:j<i
       · exact HJ.out j h
       · obtain rfl:j=i:=by omega
         exact hk
      clear hk;generalize (t.kids.getD i tr0).k=K at *;go_wp2
      go_roundw
      case rel=>exact ⟨i+1,by go_num,by omega,hb,HJ2⟩
      case measure=>simp [intOf];omega
    · have hd:((t.kids.getD i tr0).k != 1)=true:=by rw [bne_iff_ne];exact hk
      have HN:Hid (¬ allNum t):=fun h=>hk (h i hlt);clear hk;generalize (t.kids.getD i tr0).k=K at *;go_wp2
      go_ret
      exact ⟨⟨false,rfl,⟨fun h=>(by cases h),fun h=>absurd h HN.out⟩⟩,hbW⟩
  · go_wp2
    go_ret
    exact ⟨⟨true,rfl,⟨fun _ j hj=>HJ.out j (by omega),fun _=>rfl⟩⟩,hbW⟩
end
end Go.Proofs.YtmijanocljmaeaaGreat
