/- Scalar functions of bits: what is 0 or 1. -/
import Derived.Test.YtmijanocljmaeaaGreatKS1
import Derived.Test.YtmijanocljmaeaaGreatK12
import Derived.Test.YtmijanocljmaeaaGreatKS3
set_option maxRecDepth 100000
set_option maxHeartbeats 16000000
set_option linter.unusedVariables false
set_option linter.unusedSimpArgs false
namespace Go.Proofs.YtmijanocljmaeaaGreat
open Go.RowKit
/-- A bit as a whole number. -/
def bitI (h:Bool):Int:=if h then 1 else 0
/-- Its limbs. -/
def bitL (h:Bool):List Int:=if h then [1] else []
theorem Rd.one {B:Nat} {w:World} {a:Option Addr} {c:Nat} {x:Int} (h:Rd B w (.slice a 1 c) [x]):∃ b off,a=some ⟨b,off,none⟩∧b<B∧w.cell? ⟨b,off,none⟩=some (.int .u32 x):=by
 obtain ⟨_,a',cap,e,_,_,_,hc⟩:=h
 cases e
 rcases hc with h0 | ⟨b,off,rfl,hb,hj⟩
 · simp at h0
 · exact ⟨b,off,rfl,hb,by simpa using hj 0 (by simp)⟩
/-- A number that is a bit, by itself. -/
def BitN (base:Nat) (h:Bool) (e:Ending) (w':World):Prop:=∃ b z1 ns u1 z2 ds u2,e=.returned (.agg #[.bool b,.slice z1 ns.length u1,.slice z2 ds.length u2])∧Own base w' (.slice z1 ns.length u1) ns∧Own base w' (.slice z2 ds.length u2) ds∧Hid (numT b ns ds=wholeT (bitI h))
theorem truth_bit (h:Bool) (w:World):Calls Tryz.prog 75 #[.bool h] w fun e w'=>BitN w.heap.size h e w'∧Below w.heap.size w w':=by
 have R:=boxA_new w #[.bool false,.slice none 0 0,.slice none 0 0] 33;have g:=below_alloc w (.cells #[.bool false,.slice none 0 0,.slice none 0 0] 33);have lR:=R.lt;have sz:(w.alloc (.cells #[.bool false,.slice none 0 0,.slice none 0 0] 33)).heap.size=w.heap.size+1:=by simp
 cases h
 all_goals
  go_enter Tryz.func75,Tryz.ntmps75
  go_wp2_with fail
  generalize hA:w.alloc (.cells #[.bool false,.slice none 0 0,.slice none 0 0] 33)=v at *;clear hA;refine (ofInt_any _ (by omega) (by omega) v).mono ?_;rintro e w1 ⟨k1,b,ns,ds,z1,u1,z2,u2,hw,rfl,ho1,ho2⟩;have R1:=R.below k1 lR;have r0:=R1.cell 0 rfl;have r1:=R1.cell 1 rfl;have r2:=R1.cell 2 rfl;have f0:=R1.frozen 0;have f1:=R1.frozen 1;have f2:=R1.frozen 2;have R3:=((R1.put 0 (.bool b)).put 1 (.slice z1 ns.length u1)).put 2 (.slice z2 ds.length u2);have q0:=R3.cell 0 rfl;have q1:=R3.cell 1 rfl;have q2:=R3.cell 2 rfl;go_wp2
  refine bodyPost_ret (v:=.agg #[.bool b,.slice z1 ns.length u1,.slice z2 ds.length u2]) (by simp [results,Tryz.results75,go_sem,q0,q1,q2]) rfl ?_;exact ⟨⟨b,z1,ns,u1,z2,ds,u2,rfl,(ho1.set3 (by omega) _ _ _).mono (by omega),(ho2.set3 (by omega) _ _ _).mono (by omega),wholeIs_eq (by decide) (by decide) hw.out⟩,Below.set3 (g.trans (k1.mono g.size)) (Nat.le_refl _) _ _ _⟩
section
variable {w:World} {h:Bool} {p:Nat} {a1 a2:Option Addr} {c1 c2:Nat}
end
theorem rdN_row {W:World} {Z:Nat} {a:Option Addr} {c:Nat} {l:List Int} (hin:∀ x∈l,-9223372036854775808≤x∧x≤9223372036854775807) (h:W.ownsRow Z 3 1 (.slice a l.length c) l.length (l.map (Value.int .i64))):RdN (Fr Z W.heap.size) W (.slice a l.length c) l:=by
 have hrow:=h;obtain ⟨_,h | ⟨g,cap,cur,hv,hg,hh,h2,h3,_,_⟩⟩:=h
 · obtain ⟨e1,e2⟩:=h
   obtain ⟨rfl,_,rfl⟩:=Value.slice.inj e1;exact ⟨hin,none,0,rfl,by omega,by omega,fun _=>rfl,Or.inl e2⟩
 · obtain ⟨rfl,_,rfl⟩:=Value.slice.inj hv
   refine ⟨hin,_,_,rfl,h2,by unfold maxLen at h3;omega,(fun h=>by cases h),Or.inr ⟨g,0,rfl,⟨hg,lt_of_block hh⟩,fun j hj => ?_⟩⟩;have:=hrow.cellAt j (by omega);rw [getD_map_i64 l j hj] at this;rw [Nat.zero_add];exact this
/-- Items that are bits. -/
def Bits (q:List Bool) (l:List Tr):Prop:=l=q.map (fun h=>numT false (bitL h) [1])
theorem Bits.at {q:List Bool} {l:List Tr} (h:Bits q l) {j:Nat} (hj:j<l.length):l.getD j tr0=numT false (bitL (q.getD j false)) [1]:=by
 obtain rfl:=h;rw [List.length_map] at hj;simp [List.getD_eq_getElem?_getD,hj]
/-- A row of truths. -/
def RdT (w:World) (v:Value) (xs:List Bool):Prop:=∃ a cap,v=.slice a xs.length cap∧(xs.length=0∨∃ b off,a=some ⟨b,off,none⟩∧b<w.heap.size∧∀ j,j<xs.length→w.cell? ⟨b,off+j,none⟩=some (.bool (xs.getD j false)))
theorem RdT.at {w:World} {a:Option Addr} {c:Nat} {xs:List Bool} (h:RdT w (.slice a xs.length c) xs) {i:Nat} (hi:i<xs.length):∃ b off,a=some ⟨b,off,none⟩∧b<w.heap.size∧w.cell? ⟨b,off+i,none⟩=some (.bool (xs.getD i false)):=by
 obtain ⟨a',cap,e,h0 | ⟨b,off,rfl,hb,hc⟩⟩:=h
 · omega
 · cases e
   exact ⟨b,off,rfl,hb,hc i hi⟩
/-- A row of bits that grows: so many of the truths. -/
def BitRow (Z:Nat) (w:World) (v:Value) (xs:List Bool) (i:Nat):Prop:=w.ownsRow Z 3 1 v i ((xs.take i).map (fun h=>Value.int .i64 (bitI h)))
theorem BitRow.next {Z:Nat} {w:World} {v:Value} {xs:List Bool} {i:Nat} (hi:i<xs.length) (h:w.ownsRow Z 3 1 v (i+1) ((xs.take i).map (fun h=>Value.int .i64 (bitI h))++[.int .i64 (bitI (xs.getD i false))])):BitRow Z w v xs (i+1):=by
 unfold BitRow;have e:xs.take (i+1)=xs.take i++[xs.getD i false]:=by
  rw [List.take_add_one,List.getD_eq_getElem?_getD,List.getElem?_eq_getElem hi];rfl
 rw [e,List.map_append];exact h
/-- The row as a slice of ints. -/
theorem BitRow.ints {Z:Nat} {w:World} {a:Option Addr} {c:Nat} {xs:List Bool} {i:Nat} (hi:i≤xs.length) (h:BitRow Z w (.slice a i c) xs i):RdN (Fr Z w.heap.size) w (.slice a ((xs.take i).map bitI).length c) ((xs.take i).map bitI):=by
 have hl:((xs.take i).map bitI).length=i:=by rw [List.length_map,List.length_take];omega
 refine rdN_row (fun x hx => ?_) ?_
 · obtain ⟨b,_,rfl⟩:=List.mem_map.1 hx
   cases b <;> simp [bitI]
 · rw [hl,List.map_map]
   exact h
end Go.Proofs.YtmijanocljmaeaaGreat
