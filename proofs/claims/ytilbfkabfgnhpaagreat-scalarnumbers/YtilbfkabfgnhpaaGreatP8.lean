/- scalar.isZero, isWhole, isBit of any right number. -/
import Derived.Test.YtilbfkabfgnhpaaGreatM1
import Derived.Test.YtilbfkabfgnhpaaGreatP6
set_option maxRecDepth 100000
set_option maxHeartbeats 16000000
set_option linter.unusedVariables false
set_option linter.unusedSimpArgs false
namespace Go.Proofs.YtilbfkabfgnhpaaGreat
open Go.RowKit
/-- Is a number 0 or 1? -/
def bitB (b:Bool) (ns ds:List Int):Bool:=decide (ns.length=0) || (decide (ds=[1]) && !b && decide (ns=[1]))
theorem bit_is {b:Bool} {ns ds:List Int} (hr:RightP b ns ds) (h:bitB b ns ds=true):b=false∧ns=bitL (decide (ns≠[]))∧ds=[1]:=by
 obtain ⟨_,_,cn,cd,hb,hd,hg⟩:=hr;unfold bitB at h;by_cases h0:ns.length=0
 · have e:ns=[]:=List.eq_nil_of_length_eq_zero h0
   subst e;have hb':b=false:=by
    cases b with
    | false=>rfl
    | true=>exact absurd ⟨rfl,rfl⟩ hb
   refine ⟨hb',rfl,?_⟩;have hv:val ds=1:=by
    have e0:val ([]:List Int)=0:=rfl;rw [e0,gI_comm,gI_zero _ (by have:=(val_bound cd.1).1;omega)] at hg;exact hg
   exact can_inj cd can_one (by rw [hv,one_val])
 · rw [decide_eq_false h0,Bool.false_or,Bool.and_eq_true,Bool.and_eq_true,decide_eq_true_iff,decide_eq_true_iff] at h
   obtain ⟨⟨rfl,hb'⟩,rfl⟩:=h;exact ⟨by simpa using hb',rfl,rfl⟩
section
variable {w:World} {p:Nat} {b:Bool} {a1 a2:Option Addr} {c1 c2:Nat} {ns ds:List Int}
theorem isZero5_no {n:Nat} (hn:0<n) (q1:w.cell? ⟨p,1,none⟩=some (.slice a1 n c1)):Calls Tryz.prog 116 #[.pointer (some ⟨p,0,none⟩)] w fun e w'=>e=.returned (.bool false)∧w'=w:=by
 have hz:((n:Int)==0)=false:=by rw [beq_eq_false_iff_ne];omega
 go_enter Tryz.func116,Tryz.ntmps116;go_wp2
 go_ret
 exact ⟨rfl,rfl⟩
theorem rd_at0 {B:Nat} (r2:Rd B w (.slice a2 ds.length c2) ds) (h:0<ds.length):∃ g o,a2=some ⟨g,o,none⟩∧w.cell? ⟨g,o,none⟩=some (.int .u32 (ds.getD 0 0)):=by
 obtain ⟨_,a,cap,e,_,_,_,hc⟩:=r2;obtain ⟨rfl,_,rfl⟩:=Value.slice.inj e;rcases hc with h0 | ⟨b,off,rfl,_,hj⟩
 · omega
 · exact ⟨b,off,rfl,by simpa using hj 0 h⟩
theorem one_of {ds:List Int} (h1:ds.length=1):ds=[ds.getD 0 0]:=by
 match ds,h1 with
 | [x],_=>rfl
theorem isWhole5_any (q2:w.cell? ⟨p,2,none⟩=some (.slice a2 ds.length c2)) (r2:Rd w.heap.size w (.slice a2 ds.length c2) ds):Calls Tryz.prog 158 #[.pointer (some ⟨p,0,none⟩)] w fun e w'=>e=.returned (.bool (decide (ds=[1])))∧w'=w:=by
 by_cases h1:ds.length=1
 · obtain ⟨g,o,rfl,hc⟩:=rd_at0 r2 (by omega)
   have hds:=one_of h1;obtain ⟨q,hq⟩:∃ q,ds.getD 0 0=q:=⟨_,rfl⟩;rw [hq] at hc hds;have HDS:Hid (ds=[q]):=hds;rw [h1] at q2;clear hq hds r2 h1;by_cases hq1:q=1
   · have HD:Hid (decide (ds=[1])=true):=by unfold Hid;rw [HDS.out,hq1];rfl
     subst hq1;go_enter Tryz.func158,Tryz.ntmps158;go_wp2
     go_ret
     exact ⟨by rw [HD.out];rfl,rfl⟩
   · have HD:Hid (decide (ds=[1])=false):=by
      unfold Hid;rw [decide_eq_false_iff_not,HDS.out];intro e;exact hq1 (List.cons.inj e).1
     have hb:(q==1)=false:=by rw [beq_eq_false_iff_ne];exact hq1
     go_enter Tryz.func158,Tryz.ntmps158;go_wp2
     go_ret
     exact ⟨by rw [HD.out];rfl,rfl⟩
 · have HD:Hid (decide (ds=[1])=false):=by
    unfold Hid;rw [decide_eq_false_iff_not];intro e;rw [e] at h1;exact h1 rfl
   have hb:((ds.length:Int)==1)=false:=by rw [beq_eq_false_iff_ne];omega
   clear h1 r2;go_enter Tryz.func158,Tryz.ntmps158;go_wp2
   go_ret
   exact ⟨by rw [HD.out];rfl,rfl⟩
theorem isBit5_no (q0:w.cell? ⟨p,0,none⟩=some (.bool b)) (q1:w.cell? ⟨p,1,none⟩=some (.slice a1 ns.length c1)) (q2:w.cell? ⟨p,2,none⟩=some (.slice a2 ds.length c2)) (r1:Rd w.heap.size w (.slice a1 ns.length c1) ns) (r2:Rd w.heap.size w (.slice a2 ds.length c2) ds) (h:bitB b ns ds=false):Calls Tryz.prog 122 #[.pointer (some ⟨p,0,none⟩)] w fun e w'=>e=.returned (.bool false)∧w'=w:=by
 unfold bitB at h;rw [Bool.or_eq_false_iff,decide_eq_false_iff_not] at h;obtain ⟨hn0,h⟩:=h;have hz:=isZero5_no (n:=ns.length) (by omega) q1;have hw:=isWhole5_any q2 r2;obtain ⟨W,hW⟩:∃ W,decide (ds=[1])=W:=⟨_,rfl⟩;rw [hW] at hw h;clear hW q2 r2
 cases W with
 | false=>
  clear h hn0 r1;go_enter Tryz.func122,Tryz.ntmps122
  go_wp2_with fail
  refine hz.mono ?_;rintro e w1 ⟨rfl,hw1⟩;obtain rfl:=hw1.symm;clear hw1 hz
  go_wp2_with fail
  refine hw.mono ?_;rintro e w1 ⟨rfl,hw1⟩;obtain rfl:=hw1.symm;clear hw1 hw;go_wp2
  go_ret
  exact ⟨rfl,rfl⟩
 | true=>
  cases b with
  | true=>
   clear h hn0 r1;go_enter Tryz.func122,Tryz.ntmps122
   go_wp2_with fail
   refine hz.mono ?_;rintro e w1 ⟨rfl,hw1⟩;obtain rfl:=hw1.symm;clear hw1 hz
   go_wp2_with fail
   refine hw.mono ?_;rintro e w1 ⟨rfl,hw1⟩;obtain rfl:=hw1.symm;clear hw1 hw;go_wp2
   go_ret
   exact ⟨rfl,rfl⟩
  | false=>
   have hn:decide (ns=[1])=false:=by simpa using h
   rw [decide_eq_false_iff_not] at hn;by_cases h1:ns.length=1
   · obtain ⟨g,o,rfl,hc⟩:=rd_at0 r1 (by omega)
     have hq1:ns.getD 0 0≠1:=fun e=>hn (by rw [one_of h1,e]);obtain ⟨q,hq⟩:∃ q,ns.getD 0 0=q:=⟨_,rfl⟩;rw [hq] at hc hq1;rw [h1] at q1;have hb:(q==1)=false:=by rw [beq_eq_false_iff_ne];exact hq1
     clear hq hn hn0 h r1 h1 hq1;go_enter Tryz.func122,Tryz.ntmps122
     go_wp2_with fail
     refine hz.mono ?_;rintro e w1 ⟨rfl,hw1⟩;obtain rfl:=hw1.symm;clear hw1 hz
     go_wp2_with fail
     refine hw.mono ?_;rintro e w1 ⟨rfl,hw1⟩;obtain rfl:=hw1.symm;clear hw1 hw;go_wp2
     go_ret
     exact ⟨rfl,rfl⟩
   · have hb:((ns.length:Int)==1)=false:=by rw [beq_eq_false_iff_ne];omega
     clear hn hn0 h r1 h1;go_enter Tryz.func122,Tryz.ntmps122
     go_wp2_with fail
     refine hz.mono ?_;rintro e w1 ⟨rfl,hw1⟩;obtain rfl:=hw1.symm;clear hw1 hz
     go_wp2_with fail
     refine hw.mono ?_;rintro e w1 ⟨rfl,hw1⟩;obtain rfl:=hw1.symm;clear hw1 hw;go_wp2
     go_ret
     exact ⟨rfl,rfl⟩
theorem isBit5_any (rp:RightP b ns ds) (q0:w.cell? ⟨p,0,none⟩=some (.bool b)) (q1:w.cell? ⟨p,1,none⟩=some (.slice a1 ns.length c1)) (q2:w.cell? ⟨p,2,none⟩=some (.slice a2 ds.length c2)) (r1:Rd w.heap.size w (.slice a1 ns.length c1) ns) (r2:Rd w.heap.size w (.slice a2 ds.length c2) ds):Calls Tryz.prog 122 #[.pointer (some ⟨p,0,none⟩)] w fun e w'=>e=.returned (.bool (bitB b ns ds))∧w'=w:=by
 cases h:bitB b ns ds with
 | false=>exact isBit5_no q0 q1 q2 r1 r2 h
 | true=>
  obtain ⟨rfl,hn,rfl⟩:=bit_is rp h;obtain ⟨k,hk⟩:∃ k,decide (ns≠[])=k:=⟨_,rfl⟩;rw [hk] at hn;subst hn;exact isBit_bit q0 q1 q2 r1 r2
end
end Go.Proofs.YtilbfkabfgnhpaaGreat
