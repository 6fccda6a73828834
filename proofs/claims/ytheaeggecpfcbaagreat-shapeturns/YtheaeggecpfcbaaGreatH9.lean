/- Shapes that have items; what is turned along the first axis. -/
import Derived.Test.YtheaeggecpfcbaaGreatH5
import Derived.Test.YtheaeggecpfcbaaGreatH6
import Derived.Test.YtheaeggecpfcbaaGreatH7
import Derived.Deep.RegionHeld3
import Derived.Test.YtheaeggecpfcbaaGreatH8
import Derived.Test.YtheaeggecpfcbaaGreatK12
set_option maxRecDepth 100000
set_option maxHeartbeats 1600000
set_option linter.unusedVariables false
set_option linter.unusedSimpArgs false
namespace Go.Proofs.YtheaeggecpfcbaaGreat
open Go.RowKit
theorem prodF_prod:∀ (l:List Int) (s n:Int),prodF l s=some n→n=s*prodL l
 | [],s,n,h=>by rw [prodF] at h;cases h;rw [prodL,Int.mul_one]
 | x :: l,s,n,h=>by
  rw [prodF] at h;by_cases hc:4096<s*x
  · rw [if_pos hc] at h;cases h
  · rw [if_neg hc] at h
    rw [prodF_prod l _ n h,prodL,Int.mul_assoc]
theorem prodL_pos:∀ l:List Int,(∀ x∈l,1≤x)→1≤prodL l
 | [],_=>by rw [prodL];omega
 | n :: r,h=>by
  rw [prodL];have h1:=h n (by simp);have h2:=prodL_pos r (fun x hx=>h x (by simp [hx]));have:1*1≤n*prodL r:=Int.mul_le_mul h1 h2 (by omega) (by omega);omega
theorem prodL_drop_le:∀ (l:List Int) (k:Nat),(∀ x∈l,1≤x)→prodL (l.drop k)≤prodL l
 | l,0,_=>by rw [List.drop_zero];exact Int.le_refl _
 | [],k+1,_=>by rw [List.drop_nil];exact Int.le_refl _
 | n :: r,k+1,h=>by
  rw [List.drop_succ_cons,prodL];have hr:∀ x∈r,1≤x:=fun x hx=>h x (by simp [hx]);have h0:=prodL_drop_le r k hr;have h1:=h n (by simp);have h2:=prodL_pos r hr;have:1*prodL r≤n*prodL r:=Int.mul_le_mul_of_nonneg_right h1 (by omega);omega
/-- A shape that has items. -/
theorem size_items {sh:List Int} (h:(sizeF sh).2=0) (h1:(sizeF sh).1≠0):ShOK sh∧(∀ x∈sh,1≤x)∧prodL sh=(sizeF sh).1:=by
 have hk:=h;unfold sizeF at h h1 ⊢;by_cases e8:8<sh.length
 · rw [if_pos e8] at h;simp at h
 rw [if_neg e8] at h h1 ⊢;by_cases el:loF sh<0
 · rw [if_pos el] at h;simp at h
 rw [if_neg el] at h h1 ⊢;by_cases eh:4096<hiF sh
 · rw [if_pos eh] at h;simp at h
 rw [if_neg eh] at h h1 ⊢;by_cases e0:loF sh=0
 · rw [if_pos e0] at h1;simp at h1
 rw [if_neg e0] at h h1 ⊢;have hlo:=(foldl_lo sh 1).2;have hhi:=(foldl_hi sh 1).2;have hx:∀ x∈sh,1≤x:=fun x hx=>by have:=hlo x hx;have e:loF sh=sh.foldl min 1:=rfl;omega
 have hy:∀ x∈sh,x≤4096:=fun x hx=>by have:=hhi x hx;have e:hiF sh=sh.foldl max 1:=rfl;omega
 cases hp:prodF sh 1 with
 | none=>rw [hp] at h;simp at h
 | some n=>
  have hn:=prodF_prod sh 1 n hp;have hn2:=prodF_in sh 1 n (by omega) (by omega) (fun x h=>⟨hx x h,hy x h⟩) hp;rw [Int.one_mul] at hn;refine ⟨⟨hk,fun x h=>⟨by have:=hx x h;omega,hy x h⟩,fun k => ?_⟩,hx,hn.symm⟩;have:=prodL_drop_le sh k hx;omega
theorem stepF_small:∀ {l:List Int},(∀ x∈l,1≤x)→prodL l≤4096→∀ m∈stepF l,∀ s∈m,0≤s∧s≤4096
 | [],_,_,m,hm=>by simp [stepF] at hm
 | n :: r,h,hp,m,hm=>by
  have hr:∀ x∈r,1≤x:=fun x hx=>h x (by simp [hx]);have h1:=h n (by simp);have h2:=prodL_pos r hr;rw [prodL] at hp;rw [stepF] at hm;rcases List.mem_cons.1 hm with rfl | hm
  · intro s hs
    obtain ⟨i,hi,rfl⟩:=List.mem_map.1 hs;rw [List.mem_range] at hi;have h3:(i:Int)*prodL r≤n*prodL r:=Int.mul_le_mul_of_nonneg_right (by omega) (by omega);have h4:0≤(i:Int)*prodL r:=Int.mul_nonneg (by omega) (by omega);omega
  · have h5:1*prodL r≤n*prodL r:=Int.mul_le_mul_of_nonneg_right h1 (by omega)
    exact stepF_small hr (by omega) m hm
theorem lenF_step:∀ {l:List Int},(∀ x∈l,1≤x)→lenF (stepF l)=l
 | [],_=>rfl
 | n :: r,h=>by
  have e:=lenF_step (l:=r) (fun x hx=>h x (by simp [hx]));unfold lenF at e ⊢;have h1:=h n (by simp);rw [stepF,List.map_cons,e,axF_len,Int.toNat_of_nonneg (by omega)]
/-- Steps that are turned along the first axis. -/
def rotS (f:Nat):List Int→List (List Int)
 | []=>[]
 | n :: r=>rotL f (axF n (prodL r)) :: stepF r
theorem rotS_len (f:Nat) (l:List Int):(rotS f l).length=l.length:=by cases l with
 | nil=>rfl
 | cons n r=>rw [rotS,List.length_cons,List.length_cons,stepF_len]
theorem rotS_lenF {f:Nat} {l:List Int} (h:∀ x∈l,1≤x):lenF (rotS f l)=l:=by
 cases l with
 | nil=>rfl
 | cons n r=>
  have e:=lenF_step (l:=r) (fun x hx=>h x (by simp [hx]));unfold lenF at e ⊢;have h1:=h n (by simp);rw [rotS,List.map_cons,e,rotL_len,axF_len,Int.toNat_of_nonneg (by omega)]
theorem rotS_in {f:Nat} {l:List Int} (h:∀ x∈l,1≤x) (hp:prodL l≤4096):∀ m∈rotS f l,m.length≤4096∧∀ s∈m,0≤s∧s≤4096:=by
 intro m hm;have hl:m.length≤4096:=by
  have:(m.length:Int)∈lenF (rotS f l):=List.mem_map.2 ⟨m,hm,rfl⟩;rw [rotS_lenF h] at this;have h3:∀ {l:List Int},(∀ x∈l,1≤x)→∀ x∈l,x≤prodL l:=fun {l}=>by
   induction l with
   | nil=>intro _ x hx;cases hx
   | cons n r ih=>
    intro h x hx;have hr:∀ x∈r,1≤x:=fun x hx=>h x (by simp [hx]);have h1:=h n (by simp);have h2:=prodL_pos r hr;rw [prodL];rcases List.mem_cons.1 hx with rfl | hx
    · have:x*1≤x*prodL r:=Int.mul_le_mul_of_nonneg_left h2 (by omega)
      omega
    · have h4:=ih hr x hx
      have:1*prodL r≤n*prodL r:=Int.mul_le_mul_of_nonneg_right h1 (by omega);omega
  have:=h3 h _ this;omega
 refine ⟨hl,?_⟩
 cases l with
 | nil=>simp [rotS] at hm
 | cons n r=>
  rw [rotS] at hm;rcases List.mem_cons.1 hm with rfl | hm
  · intro s hs
    exact stepF_small h hp (axF n (prodL r)) (by rw [stepF];exact List.mem_cons_self) s (rotL_mem hs)
  · exact stepF_small h hp m (by rw [stepF];exact List.mem_cons_of_mem _ hm)
/-- Items turned along the first axis. -/
def rotK (f:Nat) (sh:List Int) (l:List Tr):List Tr:=rotL (f*(prodL sh.tail).toNat) l
theorem rot_sel {t:Tr} {f:Nat} {n:Int} {r:List Int} (h:∀ x∈n :: r,1≤x) (hf:(f:Int)≤n) (hl:(t.kids.length:Int)=prodL (n :: r)) :
    (walkF (rotS f (n :: r))).length=t.kids.length∧(∀ p∈walkF (rotS f (n :: r)),0≤p∧p<(t.kids.length:Int))∧selP t (walkF (rotS f (n :: r)))=rotK f (n :: r) t.kids:=by
 have hr:∀ x∈r,0≤x:=fun x hx=>by have:=h x (by simp [hx]);omega
 have h1:=h n (by simp);obtain ⟨m,rfl⟩:=Int.eq_ofNat_of_zero_le (show 0≤n by omega);have hf:f≤m:=by omega
 have e:=walkF_rot (n:=m) (r:=r) hf hr;obtain ⟨P,hP⟩:=Int.eq_ofNat_of_zero_le (prodL_nonneg r hr);rw [prodL,hP,← Int.natCast_mul] at hl;have hl:t.kids.length=m*P:=by omega
 have hmul:(m - f)*P+f*P=m*P:=by rw [← Nat.add_mul];congr 1;omega
 have hmul2:f*P+(m - f)*P=m*P:=by omega
 rw [rotS,e,hP,Int.toNat_natCast];have hpp:∀ p∈upN (f*P) ((m - f)*P)++upN 0 (f*P),0≤p∧p<(t.kids.length:Int):=by
  intro p hp;rcases List.mem_append.1 hp with hp | hp
  · obtain ⟨i,hi,rfl⟩:=List.mem_map.1 hp
    rw [List.mem_range] at hi;omega
  · obtain ⟨i,hi,rfl⟩:=List.mem_map.1 hp
    rw [List.mem_range] at hi;omega
 refine ⟨by rw [List.length_append,upN_len,upN_len];omega,hpp,?_⟩;rw [selP_F (fun p hp=>(hpp p hp).1),selF_rot hf hl];unfold rotK;rw [List.tail_cons,hP,Int.toNat_natCast]
theorem tmod_first {n L:Int} (hL:0<L) (hL2:L≤4096):IntKind.i64.wrap (Int.tmod (IntKind.i64.wrap (IntKind.i64.wrap (Int.tmod n L)+L)) L)=n % L:=by
 have h1:Int.tmod n L<L:=Int.tmod_lt_of_pos n hL;have h2:-L<Int.tmod n L:=by
  have:=Int.lt_tmod_of_pos n hL;omega
 have e1:IntKind.i64.wrap (Int.tmod n L)=Int.tmod n L:=by rw [IntKind.wrap_i64];omega
 have e2:IntKind.i64.wrap (Int.tmod n L+L)=Int.tmod n L+L:=by rw [IntKind.wrap_i64];omega
 have h3:0≤Int.tmod n L+L:=by omega
 have e3:Int.tmod (Int.tmod n L+L) L=n % L:=by
  rw [Int.tmod_eq_emod_of_nonneg h3,Int.add_emod_right];have hd:n=Int.tmod n L+L*Int.tdiv n L:=(Int.tmod_add_mul_tdiv n L).symm
  conv=>rhs;rw [hd]
  rw [Int.add_mul_emod_self_left]
 have h4:=Int.emod_nonneg n (show L≠0 by omega);have h5:=Int.emod_lt_of_pos n hL;rw [e1,e2,e3,IntKind.wrap_i64];omega
theorem tmod_first2 {n L:Int} (hL:0<L) (hL2:L≤4096):Int.tmod (IntKind.i64.wrap (Int.tmod n L+L)) L=n % L:=by
 have h:=tmod_first (n:=n) hL hL2;have h1:Int.tmod n L<L:=Int.tmod_lt_of_pos n hL;have h2:-L<Int.tmod n L:=by
  have:=Int.lt_tmod_of_pos n hL;omega
 have e1:IntKind.i64.wrap (Int.tmod n L)=Int.tmod n L:=by rw [IntKind.wrap_i64];omega
 have e2:IntKind.i64.wrap (Int.tmod n L+L)=Int.tmod n L+L:=by rw [IntKind.wrap_i64];omega
 rw [e1,e2] at h;rw [e2];have h5:0≤Int.tmod (Int.tmod n L+L) L:=Int.tmod_nonneg _ (by omega);have h6:Int.tmod (Int.tmod n L+L) L<L:=Int.tmod_lt_of_pos _ hL;have e3:IntKind.i64.wrap (Int.tmod (Int.tmod n L+L) L)=Int.tmod (Int.tmod n L+L) L:=by rw [IntKind.wrap_i64];omega
 rw [e3] at h;exact h
theorem OwZ.weaken {b b':Nat} {w:World} {v:Value} {xs:List Int} (h:OwZ b w v xs) (hb:b'≤b):OwZ b' w v xs:=by
 obtain ⟨h1,h2 | ⟨g,cap,cur,hv,hg,r⟩⟩:=h
 · exact ⟨h1,Or.inl h2⟩
 · exact ⟨h1,Or.inr ⟨g,cap,cur,hv,by omega,r⟩⟩
theorem slice_back (g o L cap q:Nat) (h1:q≤L) (h2:L≤cap) (h3:q<cap) (w:World):(Instr.sliceAt 23 (.slice (some ⟨g,o,none⟩) L cap) (some (.int .i64 (q:Int))) none none).run Tryz.prog w=.ok (.slice (some ⟨g,o+q,none⟩) (L - q) (cap - q)) w:=by
 have hu:=Tryz.underlying23;have h0:(0:Int)≤(q:Int):=by omega
 simp [Instr.sliceAt,Instr.slice,Instr.sliceBounds,Instr.sliceBound,go_sem,hu,h0];rw [if_pos h1,if_neg (by omega)]
theorem slice_front (g o L cap q:Nat) (h1:q≤cap) (w:World):(Instr.sliceAt 23 (.slice (some ⟨g,o,none⟩) L cap) none (some (.int .i64 (q:Int))) none).run Tryz.prog w=.ok (.slice (some ⟨g,o,none⟩) q cap) w:=by
 have hu:=Tryz.underlying23;have h0:(0:Int)≤(q:Int):=by omega
 simp [Instr.sliceAt,Instr.slice,Instr.sliceBounds,Instr.sliceBound,go_sem,hu,h0];intro h;omega
section
variable {D:Nat→Prop} {w:World} {ra:Option Addr} {rc nb:Nat} {l:List Int} {n:Int}
theorem rotC_any (h:RdN D w (.slice ra l.length rc) l) (hD:∀ g,D g→g<w.heap.size) (h0:0<l.length) (hl:l.length≤4096) (hc:w.cell? ⟨nb,0,none⟩=some (.int .i64 n)) :
    Calls Tryz.prog 105 #[.slice ra l.length rc,.pointer (some ⟨nb,0,none⟩)] w fun e w'=>∃ v,e=.returned v∧OwZ w.heap.size w' v (rotL (n % (l.length:Int)).toNat l)∧Below w.heap.size w w':=by
 have bd:=h.bounds;obtain ⟨g,o,rfl,hg,hcs⟩:=h.ptr h0;have HR:Hid (RdN D w (.slice (some ⟨g,o,none⟩) l.length rc) l):=h;have HD:Hid (∀ g,D g→g<w.heap.size):=hD;obtain ⟨L,hL⟩:∃ L,l.length=L:=⟨_,rfl⟩;have HL:Hid (l.length=L):=hL;rw [hL] at h0 hl bd ⊢;have ht:=tmod_first2 (n:=n) (L:=(L:Int)) (by omega) (by omega);obtain ⟨q,hq⟩:=Int.eq_ofNat_of_zero_le (Int.emod_nonneg n (show (L:Int)≠0 by omega));have hqL:q<L:=by have:=Int.emod_lt_of_pos n (show (0:Int)<(L:Int) by omega);omega
 rw [hq] at ht;have HQ:Hid ((n % (L:Int)).toNat=q):=by unfold Hid;rw [hq,Int.toNat_natCast]
 rw [HQ.out];have hz:((L:Int)==0)=false:=by rw [beq_eq_false_iff_ne];omega
 have hz2:¬ (L:Int)=0:=by omega
 clear h hD hL hcs hq;go_enter Tryz.func105,Tryz.ntmps105
 go_wp2_with fail
 have ht2:Int.tmod (wrap64 (n.tmod (L:Int)+(L:Int))) (L:Int)=(q:Int):=by
  have h:=ht;rw [IntKind.wrap_i64] at h;unfold wrap64;exact h
 rw [ht2];clear ht ht2;have hs1:=slice_back g o L rc q (by omega) bd.1 (by omega);have hs2:=slice_front g o L rc q (by omega);have kA:=below_alloc w.drew (.cells #[.slice (some ⟨g,o+q,none⟩) (L - q) (rc - q),.slice (some ⟨g,o,none⟩) q rc] 23);have BA:=boxA_new w.drew #[.slice (some ⟨g,o+q,none⟩) (L - q) (rc - q),.slice (some ⟨g,o,none⟩) q rc] 23;have kA2:Below w.heap.size w (w.drew.alloc (.cells #[.slice (some ⟨g,o+q,none⟩) (L - q) (rc - q),.slice (some ⟨g,o,none⟩) q rc] 23)):=⟨kA.os,kA.tape,kA.output,kA.size,kA.block⟩;have sA:(w.drew.alloc (.cells #[.slice (some ⟨g,o+q,none⟩) (L - q) (rc - q),.slice (some ⟨g,o,none⟩) q rc] 23)).heap.size=w.heap.size+1:=by simp
 have HC:Hid (Calls Tryz.prog 106 #[.slice (some ⟨w.heap.size,0,none⟩) 2 2] (w.drew.alloc (.cells #[.slice (some ⟨g,o+q,none⟩) (L - q) (rc - q),.slice (some ⟨g,o,none⟩) q rc] 23)) fun e w'=>∃ v,e=.returned v∧OwZ (w.heap.size+1) w' v (rotL q l)∧Below w.heap.size w w'):=by
  have hR:RdN D (w.drew.alloc (.cells #[.slice (some ⟨g,o+q,none⟩) (L - q) (rc - q),.slice (some ⟨g,o,none⟩) q rc] 23)) (.slice (some ⟨g,o,none⟩) l.length rc) l:=HR.out.imp (fun _ h=>h) (Agree.of kA2 HD.out);obtain ⟨hin,_,_,_,_,_,_,hcell⟩:=id hR;have hcell:∀ j,j<l.length→(w.drew.alloc (.cells #[.slice (some ⟨g,o+q,none⟩) (L - q) (rc - q),.slice (some ⟨g,o,none⟩) q rc] 23)).cell? ⟨g,o+j,none⟩=some (.int .i64 (l.getD j 0)):=by
   obtain ⟨g',o',e,_,hc⟩:=hR.ptr (by rw [HL.out];exact h0)
   cases e
   exact hc
  have l1:(l.drop q).length=L - q:=by rw [List.length_drop,HL.out]
  have l2:(l.take q).length=q:=by rw [List.length_take,HL.out];omega
  have r1:RdN (fun k=>D k∨k=w.heap.size) (w.drew.alloc (.cells #[.slice (some ⟨g,o+q,none⟩) (L - q) (rc - q),.slice (some ⟨g,o,none⟩) q rc] 23)) (.slice (some ⟨g,o+q,none⟩) (l.drop q).length (rc - q)) (l.drop q):=by
   refine ⟨fun x hx=>hin x (List.mem_of_mem_drop hx),_,_,rfl,by rw [l1];omega,by omega,(fun h=>by cases h),Or.inr ⟨g,o+q,rfl,Or.inl hg,fun j hj => ?_⟩⟩;have:=hcell (q+j) (by rw [l1] at hj;rw [HL.out];omega);rw [Nat.add_assoc,this]
   congr 2
   rw [List.getD_eq_getElem?_getD,List.getD_eq_getElem?_getD,List.getElem?_drop]
  have r2:RdN (fun k=>D k∨k=w.heap.size) (w.drew.alloc (.cells #[.slice (some ⟨g,o+q,none⟩) (L - q) (rc - q),.slice (some ⟨g,o,none⟩) q rc] 23)) (.slice (some ⟨g,o,none⟩) (l.take q).length rc) (l.take q):=by
   refine ⟨fun x hx=>hin x (List.mem_of_mem_take hx),_,_,rfl,by rw [l2];omega,bd.2,(fun h=>by cases h),Or.inr ⟨g,o,rfl,Or.inl hg,fun j hj => ?_⟩⟩;rw [l2] at hj;have:=hcell j (by rw [HL.out];omega);rw [this]
   congr 2
   rw [List.getD_eq_getElem?_getD,List.getD_eq_getElem?_getD,List.getElem?_take_of_lt hj]
  have h2:Rows2 (fun k=>D k∨k=w.heap.size) (w.drew.alloc (.cells #[.slice (some ⟨g,o+q,none⟩) (L - q) (rc - q),.slice (some ⟨g,o,none⟩) q rc] 23)) (some ⟨w.heap.size,0,none⟩) 2 [l.drop q,l.take q]:=by
   refine ⟨Nat.le_refl _,by omega,Or.inr ⟨w.heap.size,0,rfl,Or.inr rfl,fun j hj => ?_⟩⟩
   match j,hj with
   | 0,_=>exact ⟨_,_,by show _=some (Value.slice _ (l.drop q).length _);rw [l1];exact BA.cell 0 rfl,r1⟩
   | 1,_=>exact ⟨_,_,by show _=some (Value.slice _ (l.take q).length _);rw [l2];exact BA.cell 1 rfl,r2⟩
  have C:=concat_ints h2 (fun k hk=>by
   rcases hk with hk | hk
   · have:=HD.out k hk
     omega
   · omega) (by show 2≤1000;omega) (by simp only [List.map_cons,List.map_nil,List.sum_cons,List.sum_nil,l1,l2];omega)
  refine Calls.mono C ?_;rintro e w' ⟨v,rfl,hv,hk⟩;refine ⟨v,rfl,?_,kA2.trans (hk.mono (by omega))⟩;rw [sA] at hv;have e:[l.drop q,l.take q].flatten=rotL q l:=by simp [rotL]
  rw [← e];exact hv
 clear kA BA kA2
 go_region_with (first | (refine HC.out.mono ?_;rintro e w5 ⟨v,rfl,hv,hk⟩) | fail)
 all_goals
  go_wp2
  go_ret
  exact ⟨v,rfl,OwZ.weaken hv (by omega),hk⟩
end
theorem rows_set {S:List (List Int)} {n:Nat} {w2 wr w5:World} {v:Value} {l:List Int} (h:OutI S n n w2 wr) (hn:S.length=n) (h0:0<n) (hn2:n≤100) (k:Below wr.heap.size wr w5) (hv:OwZ wr.heap.size w5 v l) (hin:∀ x∈l,-9223372036854775808≤x∧x≤9223372036854775807) :
    Rows2 (fun g=>w2.heap.size≤g∧g<w5.heap.size) (w5.setCell ⟨w2.heap.size,0,none⟩ v) (some ⟨w2.heap.size,0,none⟩) n (l :: S.tail):=by
 obtain ⟨vs,hvl,hbx,hbel,hrow,_⟩:=h;obtain ⟨a,c,rfl⟩:=owZ_form hv;have hl:(l :: S.tail).length=n:=by rw [List.length_cons,List.length_tail];omega
 have hO:=hbx.lt;have s5:=k.size;have BX:=(hbx.below k hO).putZ 0 (.slice a l.length c);have ss:(w5.setCell ⟨w2.heap.size,0,none⟩ (.slice a l.length c)).heap.size=w5.heap.size:=set1_size _;have hag:∀ g,g≠w2.heap.size→(w5.setCell ⟨w2.heap.size,0,none⟩ (.slice a l.length c)).heap[g]? = w5.heap[g]?:=fun g hg=>by
  have hne:¬ w2.heap.size=g:=fun e=>hg e.symm;simp [World.setCell,Array.getElem?_modify,hne]
 refine ⟨by omega,by omega,Or.inr ⟨w2.heap.size,0,rfl,⟨Nat.le_refl _,by omega⟩,fun j hj => ?_⟩⟩;rw [hl] at hj;rw [Nat.zero_add]
 cases j with
 | zero=>
  refine ⟨a,c,?_,?_⟩
  · exact BX.cell 0 (by rw [List.setIfInBounds_toArray,List.getElem?_toArray,List.getElem?_set_self (by omega)];rfl)
  · exact (hv.rd hin).imp (fun g hg=>⟨by have h1:=hg.1;omega,hg.2⟩) (fun g hg=>hag g (by have h1:wr.heap.size≤g:=hg.1;omega))
 | succ j=>
  obtain ⟨a',c',e1,e2⟩:=hrow (j+1) hj;have eg:(l :: S.tail).getD (j+1) []=S.getD (j+1) []:=by
   rw [List.getD_cons_succ]
   cases S with
   | nil=>rfl
   | cons x r=>rfl
  rw [eg];refine ⟨a',c',?_,?_⟩
  · refine BX.cell (j+1) ?_
    rw [List.setIfInBounds_toArray,List.getElem?_toArray,List.getElem?_set_ne (by omega)];exact e1
  · exact e2.imp (fun g hg=>⟨by have:=hg.1;omega,by have:=hg.2;omega⟩) (fun g hg=>by rw [hag g (by have:=hg.1;omega)];exact k.block g hg.2)
/-- An array's items, turned along the first axis. -/
def rotI (n:Int) (sh:List Int) (l:List Tr):List Tr:=if (sizeF sh).1=0∨sh=[] then l else rotK (n % sh.headD 1).toNat sh l
def rotT (n:Int) (t:Tr):Tr:=arrT t.ns (rotI n t.ns t.kids)
theorem rotI_len (n:Int) (sh:List Int) (l:List Tr):(rotI n sh l).length=l.length:=by
 unfold rotI rotK
 split
 · rfl
 · exact rotL_len _ _
theorem rotI_perm (n:Int) (sh:List Int) (l:List Tr):List.Perm (rotI n sh l) l:=by
 unfold rotI rotK
 split
 · exact List.Perm.refl _
 · exact rotL_perm _ _
theorem permuted_rot {f nb:Nat} {D:Nat→Prop} {w:World} {x1 x2:Option Addr} {y1 y2:Nat} {t:Tr} {n:Int} (hD:∀ g,D g→g<w.heap.size) (hA:ArV (f+1) D w (.slice x1 t.ns.length y1) (.slice x2 t.kids.length y2) t) (hm:(measF 16 t).isSome=true) (hc:w.cell? ⟨nb,0,none⟩=some (.int .i64 n)) (hnb:nb<w.heap.size) :
    Calls Tryz.prog 104 #[.int .i64 0,.agg #[.slice x1 t.ns.length y1,.slice x2 t.kids.length y2],.func (.func 105) #[] #[.pointer (some ⟨nb,0,none⟩)]] w fun e w'=>∃ z1 u1 z2 u2,e=.returned (.tuple #[.agg #[.slice z1 t.ns.length u1,.slice z2 t.kids.length u2],.int .i64 0])∧ArV (f+1) (Fr w.heap.size w'.heap.size) w' (.slice z1 t.ns.length u1) (.slice z2 t.kids.length u2) (rotT n t)∧Below w.heap.size w w':=by
 obtain ⟨L',hL',hr8,hE,hk,hk4,hallk⟩:=measF_some hm;have HD:Hid (∀ g,D g→g<w.heap.size):=hD;have HA:Hid (ArV (f+1) D w (.slice x1 t.ns.length y1) (.slice x2 t.kids.length y2) t):=hA;have HM:Hid ((measF 16 t).isSome=true):=hm;have HE:Hid ((sizeF t.ns).2=0):=hE;have HK:Hid ((t.kids.length:Int)=max (sizeF t.ns).1 1):=hk;have bd1:=hA.1.bounds;have k0:=below_alloc w (.cells #[.slice x1 t.ns.length y1,.slice x2 t.kids.length y2] 25);have X0:=boxA_new w #[.slice x1 t.ns.length y1,.slice x2 t.kids.length y2] 25;have k1:=below_alloc (w.alloc (.cells #[.slice x1 t.ns.length y1,.slice x2 t.kids.length y2] 25)) (.cells #[.slice none 0 0,.slice none 0 0] 25);have R0:=boxA_new (w.alloc (.cells #[.slice x1 t.ns.length y1,.slice x2 t.kids.length y2] 25)) #[.slice none 0 0,.slice none 0 0] 25;have X:=X0.below k1 (by simp);have kv:Below w.heap.size w _:=k0.trans (k1.mono (by simp));have sv:((w.alloc (.cells #[.slice x1 t.ns.length y1,.slice x2 t.kids.length y2] 25)).alloc (.cells #[.slice none 0 0,.slice none 0 0] 25)).heap.size=w.heap.size+1+1:=by simp
 rw [World.size_alloc] at R0;have z0:=X.cell 0 rfl;have z1:=X.cell 1 rfl;clear hD hA hm hL' hk hallk k0 k1 X0 hE;go_enter Tryz.func104,Tryz.ntmps104
 go_wp2_with fail
 generalize hAA:(w.alloc (.cells #[.slice x1 t.ns.length y1,.slice x2 t.kids.length y2] 25)).alloc (.cells #[.slice none 0 0,.slice none 0 0] 25)=v at *;clear hAA;have C1:=count6_any (x2:=x2) (n2:=t.kids.length) (y2:=y2) (HA.out.1.imp (fun _ h=>h) (Agree.of kv HD.out)) (fun g hg=>by have:=HD.out g hg;omega);refine C1.mono ?_;rintro e w1 ⟨rfl,q1⟩;clear C1 z0 z1;have s1:=q1.size;have kw1:=kv.trans (q1.mono (by omega));have X1:=X.below q1 (by omega);have R1:=R0.below q1 (by omega);have z0:=X1.cell 0 rfl;have z1:=X1.cell 1 rfl;have CC:=copy6_any (fun g hg=>by have:=HD.out g hg;omega) (HA.out.agree (Agree.of kw1 HD.out)) HM.out;by_cases hcase:(sizeF t.ns).1=0∨t.ns=[]
 · have hrot:rotT n t=arrT t.ns t.kids:=by unfold rotT rotI;rw [if_pos hcase]
   have HROT:Hid (rotT n t=arrT t.ns t.kids):=hrot;have hd:(sizeF t.ns).1=0∨((sizeF t.ns).1≠0∧t.ns.length=0):=by
    rcases hcase with h | h
    · exact Or.inl h
    · by_cases hz:(sizeF t.ns).1=0
      · exact Or.inl hz
      · exact Or.inr ⟨hz,by rw [h];rfl⟩
   clear hcase hrot;obtain ⟨m,hmm⟩:∃ m,t.ns.length=m:=⟨_,rfl⟩;have HMM:Hid (t.ns.length=m):=hmm;obtain ⟨cn,hcn⟩:∃ cn,(sizeF t.ns).1=cn:=⟨_,rfl⟩;rw [hcn,hmm] at hd;rw [hmm] at CC z0 X1 bd1 ⊢;rw [hcn];clear hmm hcn;rcases hd with rfl | ⟨hd1,hm0⟩
   case' inr=>
    have hd2:(cn==0)=false:=by rw [beq_eq_false_iff_ne];exact hd1
    have hd3:decide (cn=0)=false:=decide_eq_false hd1;have hm1:(((m:Nat):Int)==0)=true:=by rw [beq_iff_eq];omega
    have hm2:decide (((m:Nat):Int)=0)=true:=decide_eq_true (by omega);clear hm0 hd1
   all_goals
    go_wp2_with fail
    refine CC.mono ?_;rintro e w2 ⟨p1,u1,p2,u2,rfl,hv,k5⟩;have HV:Hid (ArV (f+1) (Fr w1.heap.size w2.heap.size) w2 (.slice p1 m u1) (.slice p2 t.kids.length u2) t):=hv;have s2:=k5.size;have R2:=R1.below k5 (by omega);have kz:=kw1.trans (k5.mono (by omega));clear CC hv z0 z1;have r0:=R2.cell 0 rfl;have r1:=R2.cell 1 rfl;have f0:=R2.frozen 0;have f1:=R2.frozen 1;have Rd:=R2.set2 (.slice p1 m u1) (.slice p2 t.kids.length u2);have w0':=Rd.cell 0 rfl;have w1':=Rd.cell 1 rfl;go_wp2
    try simp only [Exit.inBlock,Exit.then]
    refine bodyPost_ret (v:=.tuple #[.agg #[.slice p1 m u1,.slice p2 t.kids.length u2],.int .i64 0]) ?_ rfl ?_
    · simp [results,Tryz.results104,go_sem,w0',w1']
    rw [HMM.out];refine ⟨p1,u1,p2,u2,rfl,?_,(kz.setCell (p:=⟨w.heap.size+1,0,none⟩) (by show w.heap.size≤w.heap.size+1;omega) _).setCell (p:=⟨w.heap.size+1,1,none⟩) (by show w.heap.size≤w.heap.size+1;omega) _⟩;rw [HROT.out];refine ArV.imp ?_ ?_ (f+1) (f+1) _ _ (arrT t.ns t.kids) (Nat.le_refl _) HV.out
    · rintro g' ⟨h1,h2⟩
      exact ⟨by omega,by simp [World.setCell];exact h2⟩
    · rintro g' ⟨h1,h2⟩
      have hne:¬ w.heap.size+1=g':=by omega
      simp [World.setCell,Array.getElem?_modify,hne]
 · have h1:(sizeF t.ns).1≠0:=fun h=>hcase (Or.inl h)
   obtain ⟨n0,r,hns⟩:∃ n0 r,t.ns=n0 :: r:=by
    cases he:t.ns with
    | nil=>exact absurd (Or.inr he) hcase
    | cons n0 r=>exact ⟨n0,r,rfl⟩
   obtain ⟨hok,hpos,hprod⟩:=size_items HE.out h1;have hkl:(t.kids.length:Int)=prodL t.ns:=by have:=HK.out;have:=(sizeF_in t.ns).1;rw [hprod];omega
   have hp4:prodL t.ns≤4096:=hok.2.2 0;have hn0:1≤n0∧n0≤4096:=by rw [hns] at hpos hok;exact ⟨hpos n0 (by simp),(hok.2.1 n0 (by simp)).2⟩
   have HROT:Hid (rotT n t=arrT t.ns (rotK (n % n0).toNat t.ns t.kids)):=by
    unfold Hid rotT rotI;rw [if_neg hcase,hns];rfl
   have h0m:¬ (0:Int)∈t.ns:=fun h=>by have:=hpos 0 h;omega
   have hSE:stepE t.ns=axF n0 (prodL r) :: stepF r:=by rw [stepE_F h0m,hns,stepF]
   have C2:=steps_any (HA.out.1.imp (fun _ h=>h) (Agree.of kw1 HD.out)) (fun g hg=>by have:=HD.out g hg;omega) hok;rw [hSE] at C2;have HOK:Hid (ShOK t.ns):=hok;have HPOS:Hid (∀ x∈t.ns,1≤x):=hpos;have HNS:Hid (t.ns=n0 :: r):=hns;have HKL:Hid ((t.kids.length:Int)=prodL t.ns):=hkl;have HNL:Hid (t.ns.length=r.length+1):=by unfold Hid;rw [hns,List.length_cons]
   have hnl1:1≤t.ns.length:=by rw [hns,List.length_cons];omega
   have HSz:Hid (sizeF t.ns=((t.kids.length:Int),0)):=Prod.ext (by rw [hkl,hprod]) HE.out;have hk1:1≤t.kids.length:=by have:=HK.out;omega
   have HP4:Hid (prodL t.ns≤4096):=hp4;obtain ⟨cn,hcn⟩:∃ cn,(sizeF t.ns).1=cn:=⟨_,rfl⟩;rw [hcn] at h1 ⊢;have hd2:(cn==0)=false:=by rw [beq_eq_false_iff_ne];exact h1
   have hd3:decide (cn=0)=false:=decide_eq_false h1;have hl1:¬ ((t.ns.length:Int)=0):=by omega
   have hl2:(((t.ns.length:Nat):Int)==0)=false:=by rw [beq_eq_false_iff_ne];exact hl1
   clear CC hcase hok hpos hns hkl h0m hSE hcn hprod hp4 h1
   go_wp2_with fail
   refine C2.mono ?_;rintro e w3 ⟨w2,rfl,k2,hO⟩;have HO:Hid (OutI (axF n0 (prodL r) :: stepF r) t.ns.length t.ns.length w2 w3):=hO;obtain ⟨vs,hvl,hbx,hbel,hrow,_⟩:=hO;obtain ⟨ra,rc,e1,e2⟩:=hrow 0 (by omega);have s2:=k2.size;have s3:=hbel.size;have k3:Below w1.heap.size w1 w3:=k2.trans (hbel.mono s2);have kw3:=kw1.trans (k3.mono (by omega));have X3:=X1.below k3 (by omega);have R3:=R1.below k3 (by omega);have c0:=hbx.cell 0 (v:=.slice ra (axF n0 (prodL r)).length rc) (by rw [List.getElem?_toArray];exact e1);have hl0:(axF n0 (prodL r)).length=n0.toNat:=axF_len _ _;have CR:=rotC_any (w:=w3) (nb:=nb) (n:=n) (ra:=ra) (rc:=rc) (l:=axF n0 (prodL r)) e2 (fun g hg=>hg.2) (by omega) (by omega) ((kw3.cell (p:=⟨nb,0,none⟩) hnb).trans hc);have lO:=hbx.lt;have HIN:Hid (∀ x∈axF n0 (prodL r),-9223372036854775808≤x∧x≤9223372036854775807):=e2.1;clear C2 z0 z1 hrow e1 e2 hvl;obtain ⟨rl,hrl⟩:∃ rl,(axF n0 (prodL r)).length=rl:=⟨_,rfl⟩;have HRL:Hid ((axF n0 (prodL r)).length=rl):=hrl;rw [hrl] at c0 CR;have hrl0:(rl:Int)=n0:=by rw [← hrl,hl0,Int.toNat_of_nonneg (by omega)]
   have HRL0:Hid ((rl:Int)=n0):=hrl0;rw [hrl0] at CR;clear hl0 hrl hrl0
   go_wp2_with fail
   refine CR.mono ?_;rintro e w5 ⟨vv,rfl,hvv,q5⟩;clear CR;obtain ⟨va,vc,rfl⟩:=owZ_form hvv;have hfn:((n % n0).toNat:Int)≤n0:=by
    have h1:=Int.emod_nonneg n (show n0≠0 by omega);have h2:=Int.emod_lt_of_pos n (show 0<n0 by omega);omega
   obtain ⟨F,hF⟩:∃ F,(n % n0).toNat=F:=⟨_,rfl⟩;have HFF:Hid ((n % n0).toNat=F):=hF;rw [hF] at hvv hfn ⊢;have s5:=q5.size;have kw5:=kw3.trans (q5.mono (by omega));have hRows:=rows_set HO.out (by have:=HNL.out;rw [List.length_cons,stepF_len];omega) (by omega) (by omega) q5 hvv (fun x hx=>HIN.out x (rotL_mem hx));have hRowsE:axF n0 (prodL r) :: stepF r=stepF (n0 :: r):=rfl;rw [List.tail_cons] at hRows;have HRW:Hid (Rows2 (fun g=>w2.heap.size≤g∧g<w5.heap.size) (w5.setCell ⟨w2.heap.size,0,none⟩ (.slice va (rotL F (axF n0 (prodL r))).length vc)) (some ⟨w2.heap.size,0,none⟩) t.ns.length (rotS F t.ns)):=by unfold Hid;rw [HNS.out];exact (by have:=hRows;rw [HNS.out] at this;exact this)
   have B5:=hbx.below q5 lO;have c0':=B5.cell 0 (v:=.slice ra rl rc) (by have e:=c0;unfold World.cell? at e;unfold BoxA at hbx;rw [hbx] at e;simpa using e);have f0':=B5.frozen 0;have X5:=X3.below q5 (by omega);have R5:=R3.below q5 (by omega);obtain ⟨lv,hlv⟩:∃ lv,(rotL F (axF n0 (prodL r))).length=lv:=⟨_,rfl⟩;rw [hlv] at HRW hvv ⊢;have X6:=X5.other (p:=⟨w2.heap.size,0,none⟩) (by show w2.heap.size≠_;omega) (.slice va lv vc);have R6:=R5.other (p:=⟨w2.heap.size,0,none⟩) (by show w2.heap.size≠_;omega) (.slice va lv vc);have kw6:=kw5.setCell (p:=⟨w2.heap.size,0,none⟩) (by show w.heap.size≤w2.heap.size;omega) (.slice va lv vc);have s6:(w5.setCell ⟨w2.heap.size,0,none⟩ (.slice va lv vc)).heap.size=w5.heap.size:=set1_size _;obtain ⟨w6,hw6⟩:∃ w6,w5.setCell ⟨w2.heap.size,0,none⟩ (.slice va lv vc)=w6:=⟨_,rfl⟩;rw [hw6] at HRW X6 R6 kw6 s6;obtain ⟨hwl,hwi,hws⟩:=rot_sel (t:=t) (f:=F) (n:=n0) (r:=r) (by rw [← HNS.out];exact HPOS.out) hfn (by rw [← HNS.out];exact HKL.out);rw [← HNS.out] at hwl hwi hws;have hsm:=rotS_in (f:=F) HPOS.out HP4.out;obtain ⟨hf1,hf2,hf3,hf4,_,_⟩:=make_fit (sh:=t.ns) (l:=t.kids) (l':=rotK F t.ns t.kids) HM.out (rotL_perm _ _);have hlF:lenF (rotS F t.ns)=t.ns:=rotS_lenF HPOS.out;have CS:=selected_ok (f:=f) (N:=t.kids.length) (D:=fun g=>D g∨(w.heap.size≤g∧g<w5.heap.size)) (w:=w6) (t:=t) (ss:=rotS F t.ns) (x1:=x1) (x2:=x2) (y1:=y1) (y2:=y2) (b:=some ⟨w2.heap.size,0,none⟩) (c:=t.ns.length) (fun g hg=>by
    rcases hg with hg | hg
    · have:=HD.out g hg
      omega
    · omega) (ArV.imp (fun g hg=>Or.inl hg) (Agree.of kw6 HD.out) (f+1) (f+1) _ _ t (Nat.le_refl _) HA.out) HM.out (HRW.out.imp (fun g hg=>Or.inr ⟨by omega,hg.2⟩) (fun _ _=>rfl)) ⟨by rw [rotS_len];omega,fun m hm s hs=>by have:=(hsm m hm).2 s hs;omega⟩ (fun m hm=>by have:=(hsm m hm).1;omega) (by rw [hlF,HSz.out]) (by rw [hlF,HSz.out]) hk1 hwl (fun p hp=>(hwi p hp).2) (by rw [hws];exact hf1) (by rw [hws];exact hf2) (by rw [hws];exact hf3)
   rw [hws,hlF,rotS_len] at CS;have z0:=X6.cell 0 rfl;have z1:=X6.cell 1 rfl;clear hws hwl hwi hsm hlF hf1 hf2 hf3 hf4 hRows hRowsE hlv hvv hF
   go_wp2_with fail
   try rw [hw6]
   refine CS.mono ?_;rintro e w7 ⟨p1,u1,p2,u2,rfl,hv,k7⟩;have HV:Hid (ArV (f+1) (Fr w6.heap.size w7.heap.size) w7 (.slice p1 t.ns.length u1) (.slice p2 t.kids.length u2) (arrT t.ns (rotK F t.ns t.kids))):=hv;have s7:=k7.size;have R7:=R6.below k7 (by omega);have kz:=kw6.trans (k7.mono (by omega));clear CS hv z0 z1;have r0:=R7.cell 0 rfl;have r1:=R7.cell 1 rfl;have f0:=R7.frozen 0;have f1:=R7.frozen 1;have Rd:=R7.set2 (.slice p1 t.ns.length u1) (.slice p2 t.kids.length u2);have w0':=Rd.cell 0 rfl;have w1':=Rd.cell 1 rfl;go_wp2
   try simp only [Exit.inBlock,Exit.then]
   refine bodyPost_ret (v:=.tuple #[.agg #[.slice p1 t.ns.length u1,.slice p2 t.kids.length u2],.int .i64 0]) ?_ rfl ?_
   · simp [results,Tryz.results104,go_sem,w0',w1']
   refine ⟨p1,u1,p2,u2,rfl,?_,(kz.setCell (p:=⟨w.heap.size+1,0,none⟩) (by show w.heap.size≤w.heap.size+1;omega) _).setCell (p:=⟨w.heap.size+1,1,none⟩) (by show w.heap.size≤w.heap.size+1;omega) _⟩;rw [HROT.out,HFF.out];refine ArV.imp ?_ ?_ (f+1) (f+1) _ _ _ (Nat.le_refl _) HV.out
   · rintro g' ⟨h1,h2⟩
     exact ⟨by omega,by simp [World.setCell];exact h2⟩
   · rintro g' ⟨h1,h2⟩
     have hne:¬ w.heap.size+1=g':=by omega
     simp [World.setCell,Array.getElem?_modify,hne]
/-- A scalar that is a whole number, for certain. -/
def IntScal (s:Tr) (n:Int):Prop:=s.ns=[]∧(measF 16 s).isSome=true∧∀ m ok,IntOf s m ok→m=n∧ok=true
theorem rotated_any {f:Nat} {D:Nat→Prop} {w:World} {x1 x2 a1 a2:Option Addr} {y1 y2 n2 b1 b2:Nat} {t s:Tr} {n:Int} (hD:∀ g,D g→g<w.heap.size) (hA:ArV (f+1) D w (.slice x1 t.ns.length y1) (.slice x2 t.kids.length y2) t) (hm:(measF 16 t).isSome=true)
    (hS:ArV (f+1) D w (.slice a1 s.ns.length b1) (.slice a2 n2 b2) s) (hn:IntScal s n) :
    Calls Tryz.prog 61 #[.int .i64 0,.agg #[.slice a1 s.ns.length b1,.slice a2 n2 b2],.agg #[.slice x1 t.ns.length y1,.slice x2 t.kids.length y2]] w fun e w'=>∃ z1 u1 z2 u2,e=.returned (.tuple #[.agg #[.slice z1 t.ns.length u1,.slice z2 t.kids.length u2],.int .i64 0])∧ArV (f+1) (Fr w.heap.size w'.heap.size) w' (.slice z1 t.ns.length u1) (.slice z2 t.kids.length u2) (rotT n t)∧Below w.heap.size w w':=by
 have HD:Hid (∀ g,D g→g<w.heap.size):=hD;have HA:Hid (ArV (f+1) D w (.slice x1 t.ns.length y1) (.slice x2 t.kids.length y2) t):=hA;have HM:Hid ((measF 16 t).isSome=true):=hm;have HS:Hid (ArV (f+1) D w (.slice a1 s.ns.length b1) (.slice a2 n2 b2) s):=hS;have HN:Hid (IntScal s n):=hn;have hsz:sizeF s.ns=(1,0):=by rw [hn.1];decide
 have k0:=below_alloc w (.cells #[.slice a1 s.ns.length b1,.slice a2 n2 b2] 25);have S0:=boxA_new w #[.slice a1 s.ns.length b1,.slice a2 n2 b2] 25;have k1:=below_alloc (w.alloc (.cells #[.slice a1 s.ns.length b1,.slice a2 n2 b2] 25)) (.cells #[.slice x1 t.ns.length y1,.slice x2 t.kids.length y2] 25);have X0:=boxA_new (w.alloc (.cells #[.slice a1 s.ns.length b1,.slice a2 n2 b2] 25)) #[.slice x1 t.ns.length y1,.slice x2 t.kids.length y2] 25;have k2:=below_alloc ((w.alloc (.cells #[.slice a1 s.ns.length b1,.slice a2 n2 b2] 25)).alloc (.cells #[.slice x1 t.ns.length y1,.slice x2 t.kids.length y2] 25)) (.cells #[.slice none 0 0,.slice none 0 0] 25);have R0:=boxA_new ((w.alloc (.cells #[.slice a1 s.ns.length b1,.slice a2 n2 b2] 25)).alloc (.cells #[.slice x1 t.ns.length y1,.slice x2 t.kids.length y2] 25)) #[.slice none 0 0,.slice none 0 0] 25;have S1:=(S0.below k1 (by simp)).below k2 (by simp;omega);have X1:=X0.below k2 (by simp);have kv:Below w.heap.size w _:=(k0.trans (k1.mono (by simp))).trans (k2.mono (by simp;omega));have sv:(((w.alloc (.cells #[.slice a1 s.ns.length b1,.slice a2 n2 b2] 25)).alloc (.cells #[.slice x1 t.ns.length y1,.slice x2 t.kids.length y2] 25)).alloc (.cells #[.slice none 0 0,.slice none 0 0] 25)).heap.size=w.heap.size+1+1+1:=by simp
 rw [World.size_alloc] at X1;rw [World.size_alloc,World.size_alloc] at R0;have z0:=S1.cell 0 rfl;have z1:=S1.cell 1 rfl;clear hD hA hm hS hn k0 k1 k2 X0 S0;go_enter Tryz.func61,Tryz.ntmps61
 go_wp2_with fail
 generalize hAA:((w.alloc (.cells #[.slice a1 s.ns.length b1,.slice a2 n2 b2] 25)).alloc (.cells #[.slice x1 t.ns.length y1,.slice x2 t.kids.length y2] 25)).alloc (.cells #[.slice none 0 0,.slice none 0 0] 25)=v at *;clear hAA;have C1:=count6_any (x2:=a2) (n2:=n2) (y2:=b2) (HS.out.1.imp (fun _ h=>h) (Agree.of kv HD.out)) (fun g hg=>by have:=HD.out g hg;omega);rw [hsz] at C1;simp only [] at C1;clear hsz;refine C1.mono ?_;rintro e w1 ⟨rfl,q1⟩;clear C1 z0 z1;have s1:=q1.size;have kw1:=kv.trans (q1.mono (by omega));have S2:=S1.below q1 (by omega);have X2:=X1.below q1 (by omega);have R2:=R0.below q1 (by omega);have z0:=S2.cell 0 rfl;have z1:=S2.cell 1 rfl;have C2:=toInt3_any (fun g hg=>by have:=HD.out g hg;omega) (HS.out.agree (Agree.of kw1 HD.out))
 go_wp2_with fail
 refine C2.mono ?_;rintro e w2 ⟨m,ok,rfl,him,q2⟩;obtain ⟨rfl,rfl⟩:=HN.out.2.2 m ok him.out;clear C2 z0 z1;have s2:=q2.size;have kw2:=kw1.trans (q2.mono (by omega));have X3:=X2.below q2 (by omega);have R3:=R2.below q2 (by omega);have kb:=below_alloc w2 (.cells #[.int .i64 m] 3);have NB:=boxA_new w2 #[.int .i64 m] 3;have sb:(w2.alloc (.cells #[.int .i64 m] 3)).heap.size=w2.heap.size+1:=by simp
 have X4:=X3.below kb (by omega);have R4:=R3.below kb (by omega);have kw3:=kw2.trans (kb.mono (by omega));have z0:=X4.cell 0 rfl;have z1:=X4.cell 1 rfl;have CP:=permuted_rot (w:=w2.alloc (.cells #[.int .i64 m] 3)) (nb:=w2.heap.size) (n:=m) (fun g hg=>by have:=HD.out g hg;omega) (HA.out.agree (Agree.of kw3 HD.out)) HM.out (NB.cell 0 rfl) (by omega);clear him
 go_wp2_with fail
 refine CP.mono ?_;rintro e w7 ⟨p1,u1,p2,u2,rfl,hv,k7⟩;have HV:Hid (ArV (f+1) (Fr (w2.alloc (.cells #[.int .i64 m] 3)).heap.size w7.heap.size) w7 (.slice p1 t.ns.length u1) (.slice p2 t.kids.length u2) (rotT m t)):=hv;have s7:=k7.size;have R7:=R4.below k7 (by omega);have kz:=kw3.trans (k7.mono (by omega));clear CP hv z0 z1;have r0:=R7.cell 0 rfl;have r1:=R7.cell 1 rfl;have f0:=R7.frozen 0;have f1:=R7.frozen 1;have Rd:=R7.set2 (.slice p1 t.ns.length u1) (.slice p2 t.kids.length u2);have w0':=Rd.cell 0 rfl;have w1':=Rd.cell 1 rfl;go_wp2
 try simp only [Exit.inBlock,Exit.then]
 refine bodyPost_ret (v:=.tuple #[.agg #[.slice p1 t.ns.length u1,.slice p2 t.kids.length u2],.int .i64 0]) ?_ rfl ?_
 · simp [results,Tryz.results61,go_sem,w0',w1']
 refine ⟨p1,u1,p2,u2,rfl,?_,(kz.setCell (p:=⟨w.heap.size+1+1,0,none⟩) (by show w.heap.size≤w.heap.size+1+1;omega) _).setCell (p:=⟨w.heap.size+1+1,1,none⟩) (by show w.heap.size≤w.heap.size+1+1;omega) _⟩;refine ArV.imp ?_ ?_ (f+1) (f+1) _ _ _ (Nat.le_refl _) HV.out
 · rintro g' ⟨h1,h2⟩
   exact ⟨by omega,by simp [World.setCell];exact h2⟩
 · rintro g' ⟨h1,h2⟩
   have hne:¬ w.heap.size+1+1=g':=by omega
   simp [World.setCell,Array.getElem?_modify,hne]
end Go.Proofs.YtheaeggecpfcbaaGreat
