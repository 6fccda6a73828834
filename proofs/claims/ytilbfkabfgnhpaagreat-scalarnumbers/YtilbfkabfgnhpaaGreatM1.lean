/- Scalar functions of bits: what is 0 or 1. -/
import Derived.Test.YtilbfkabfgnhpaaGreatKS1
import Derived.Test.YtilbfkabfgnhpaaGreatK12
set_option maxRecDepth 100000
set_option maxHeartbeats 16000000
set_option linter.unusedVariables false
set_option linter.unusedSimpArgs false
namespace Go.Proofs.YtilbfkabfgnhpaaGreat
open Go.RowKit
/-- A bit as a whole number. -/
def bitI (h:Bool):Int:=if h then 1 else 0
/-- Its limbs. -/
def bitL (h:Bool):List Int:=if h then [1] else []
theorem wholeT_bit (h:Bool):wholeT (bitI h)=numT false (bitL h) [1]:=by
 cases h
 · exact (wholeIs_eq (by decide) (by decide) (q:=0) (b:=false) (ns:=[]) (ds:=[1]) ⟨by decide,can_nil,rfl,by decide,rfl⟩).symm
 · exact (wholeIs_eq (by decide) (by decide) (q:=1) (b:=false) (ns:=[1]) (ds:=[1]) ⟨by decide,can_one,one_val,by decide,rfl⟩).symm
theorem Rd.one {B:Nat} {w:World} {a:Option Addr} {c:Nat} {x:Int} (h:Rd B w (.slice a 1 c) [x]):∃ b off,a=some ⟨b,off,none⟩∧b<B∧w.cell? ⟨b,off,none⟩=some (.int .u32 x):=by
 obtain ⟨_,a',cap,e,_,_,_,hc⟩:=h
 cases e
 rcases hc with h0 | ⟨b,off,rfl,hb,hj⟩
 · simp at h0
 · exact ⟨b,off,rfl,hb,by simpa using hj 0 (by simp)⟩
/-- A number that is a bit, by itself. -/
def BitN (base:Nat) (h:Bool) (e:Ending) (w':World):Prop:=∃ b z1 ns u1 z2 ds u2,e=.returned (.agg #[.bool b,.slice z1 ns.length u1,.slice z2 ds.length u2])∧Own base w' (.slice z1 ns.length u1) ns∧Own base w' (.slice z2 ds.length u2) ds∧Hid (numT b ns ds=wholeT (bitI h))
theorem truth_bit (h:Bool) (w:World):Calls Tryz.prog 84 #[.bool h] w fun e w'=>BitN w.heap.size h e w'∧Below w.heap.size w w':=by
 have R:=boxA_new w #[.bool false,.slice none 0 0,.slice none 0 0] 24;have g:=below_alloc w (.cells #[.bool false,.slice none 0 0,.slice none 0 0] 24);have lR:=R.lt;have sz:(w.alloc (.cells #[.bool false,.slice none 0 0,.slice none 0 0] 24)).heap.size=w.heap.size+1:=by simp
 cases h
 all_goals
  go_enter Tryz.func84,Tryz.ntmps84
  go_wp2_with fail
  generalize hA:w.alloc (.cells #[.bool false,.slice none 0 0,.slice none 0 0] 24)=v at *;clear hA;refine (ofInt_any _ (by omega) (by omega) v).mono ?_;rintro e w1 ⟨k1,b,ns,ds,z1,u1,z2,u2,hw,rfl,ho1,ho2⟩;have R1:=R.below k1 lR;have r0:=R1.cell 0 rfl;have r1:=R1.cell 1 rfl;have r2:=R1.cell 2 rfl;have f0:=R1.frozen 0;have f1:=R1.frozen 1;have f2:=R1.frozen 2;have R3:=((R1.put 0 (.bool b)).put 1 (.slice z1 ns.length u1)).put 2 (.slice z2 ds.length u2);have q0:=R3.cell 0 rfl;have q1:=R3.cell 1 rfl;have q2:=R3.cell 2 rfl;go_wp2
  refine bodyPost_ret (v:=.agg #[.bool b,.slice z1 ns.length u1,.slice z2 ds.length u2]) (by simp [results,Tryz.results84,go_sem,q0,q1,q2]) rfl ?_;exact ⟨⟨b,z1,ns,u1,z2,ds,u2,rfl,(ho1.set3 (by omega) _ _ _).mono (by omega),(ho2.set3 (by omega) _ _ _).mono (by omega),wholeIs_eq (by decide) (by decide) hw.out⟩,Below.set3 (g.trans (k1.mono g.size)) (Nat.le_refl _) _ _ _⟩
section
variable {w:World} {h:Bool} {p:Nat} {a1 a2:Option Addr} {c1 c2:Nat}
theorem isZero_bit (q1:w.cell? ⟨p,1,none⟩=some (.slice a1 (bitL h).length c1)):Calls Tryz.prog 116 #[.pointer (some ⟨p,0,none⟩)] w fun e w'=>e=.returned (.bool (!h))∧w'=w:=by
 cases h
 · replace q1:w.cell? ⟨p,1,none⟩=some (.slice a1 0 c1):=q1
   go_enter Tryz.func116,Tryz.ntmps116;go_wp2
   go_ret
   exact ⟨rfl,rfl⟩
 · replace q1:w.cell? ⟨p,1,none⟩=some (.slice a1 1 c1):=q1
   go_enter Tryz.func116,Tryz.ntmps116;go_wp2
   go_ret
   exact ⟨rfl,rfl⟩
theorem isWhole_one {b off:Nat} (q2:w.cell? ⟨p,2,none⟩=some (.slice (some ⟨b,off,none⟩) 1 c2)) (hc:w.cell? ⟨b,off,none⟩=some (.int .u32 1)):Calls Tryz.prog 158 #[.pointer (some ⟨p,0,none⟩)] w fun e w'=>e=.returned (.bool true)∧w'=w:=by
 go_enter Tryz.func158,Tryz.ntmps158;go_wp2
 go_ret
 exact ⟨rfl,rfl⟩
theorem isBit_bit (q0:w.cell? ⟨p,0,none⟩=some (.bool false)) (q1:w.cell? ⟨p,1,none⟩=some (.slice a1 (bitL h).length c1)) (q2:w.cell? ⟨p,2,none⟩=some (.slice a2 1 c2)) (r1:Rd w.heap.size w (.slice a1 (bitL h).length c1) (bitL h)) (r2:Rd w.heap.size w (.slice a2 1 c2) [1]):Calls Tryz.prog 122 #[.pointer (some ⟨p,0,none⟩)] w fun e w'=>e=.returned (.bool true)∧w'=w:=by
 have hz:=isZero_bit q1;obtain ⟨b,off,rfl,_,hc⟩:=r2.one;have hw:=isWhole_one q2 hc
 cases h
 · clear r1
   go_enter Tryz.func122,Tryz.ntmps122
   go_wp2_with fail
   refine hz.mono ?_;rintro e w' ⟨rfl,hw'⟩;obtain rfl:=hw'.symm;go_wp2
   go_ret
   exact ⟨rfl,rfl⟩
 · replace q1:w.cell? ⟨p,1,none⟩=some (.slice a1 1 c1):=q1
   replace r1:Rd w.heap.size w (.slice a1 1 c1) [1]:=r1;obtain ⟨b1,o1,rfl,_,hc1⟩:=r1.one;clear r1;go_enter Tryz.func122,Tryz.ntmps122
   go_wp2_with fail
   refine hz.mono ?_;rintro e w' ⟨rfl,hw'⟩;obtain rfl:=hw'.symm;clear hz
   go_wp2_with fail
   refine hw.mono ?_;rintro e w' ⟨rfl,hw'⟩;obtain rfl:=hw'.symm;clear hw;go_wp2
   go_ret
   exact ⟨rfl,rfl⟩
end
end Go.Proofs.YtilbfkabfgnhpaaGreat
