/- Plain facts on texts: where a mark stands, what a macron is, byte by byte and character by character. -/
import Derived.Lib.RuneCount
import Derived.Laws.RangeAny
import Derived.Test.YtilbfkabfgnhpaaGreatJ3
import Derived.Lib.OthersKept
import Derived.Test.YtilbfkabfgnhpaaGreatJ1
import Derived.Test.YtilbfkabfgnhpaaGreatJ4
import Derived.Test.YtilbfkabfgnhpaaGreatJ2
set_option maxRecDepth 100000
set_option maxHeartbeats 3200000
set_option linter.unusedVariables false
set_option linter.unusedSimpArgs false
namespace Go.Proofs.YtilbfkabfgnhpaaGreat
section
/-- Does a text begin with a macron? -/
def isMac (l:List UInt8):Bool:=match l with | a :: b :: _=>a.toNat==194 && b.toNat==175 | _=>false
/-- Where a number's digits begin. -/
def st (l:List UInt8):Nat:=if isMac l=true then 2 else 0
end
section
open Go.RowKit
section
variable {w:World} {B ty:Nat} {x y z u:Value}
end
theorem p2_pow (b k:Nat):p2 b ^ k=p2 (b*k):=by unfold p2;rw [Int.pow_mul]
theorem pow_le_pow {x y:Int} (h0:0≤x) (h:x≤y) (k:Nat):x ^ k≤y ^ k∧0≤x ^ k:=by
 induction k with
 | zero=>simp
 | succ k ih=>
  rw [Int.pow_succ,Int.pow_succ];exact ⟨Int.mul_le_mul ih.1 h h0 (by omega),Int.mul_nonneg ih.2 h0⟩
theorem one_pow' (k:Nat):(1:Int) ^ k=1:=Int.one_pow
theorem zero_pow' (k:Nat):(0:Int) ^ k=0∨(0:Int) ^ k=1:=by
 cases k with
 | zero=>exact Or.inr rfl
 | succ k=>left;rw [Int.pow_succ];simp
/-- What a power is below, where it is not too great ahead. -/
theorem pow_bound (x:Int) (b n M:Nat) (hb:isBits x b) (h:¬ (2≤b∧32*M≤(b - 1)*n)) (k:Nat) (hk:k≤n):0≤x ^ k∧x ^ k<pw (2*M+1):=by
 have p1:1<pw (2*M+1):=by rw [pw_succ];have:=pw_pos (2*M);omega
 rcases hb with ⟨rfl,rfl⟩ | ⟨b1,b2,b3⟩
 · rcases zero_pow' k with h | h <;> rw [h] <;> omega
 · by_cases hb2:b=1
   · subst hb2
     have e1:p2 0=1:=rfl;have e2:p2 1=2:=rfl;have:x=1:=by simp only [Nat.sub_self] at b2;omega
     rw [this,one_pow'];omega
   · have hlt:(b - 1)*n<32*M:=Nat.lt_of_not_le (fun e=>h ⟨by omega,e⟩)
     have hx0:0≤x:=by have:=p2_pos (b - 1);omega
     have h1:=pow_le_pow hx0 (Int.le_of_lt b3) k;rw [p2_pow] at h1;have h2:b*k≤2*((b - 1)*n):=by
      have h3:b*k≤(2*(b - 1))*k:=Nat.mul_le_mul_right _ (by omega);have h4:(2*(b - 1))*k≤(2*(b - 1))*n:=Nat.mul_le_mul_left _ hk;have h5:(2*(b - 1))*n=2*((b - 1)*n):=Nat.mul_assoc _ _ _;omega
     have h5:=p2_mono (j:=b*k) (k:=32*(2*M)) (by omega);rw [← pw_p2] at h5;have h6:=pw_pos (2*M);rw [pw_succ];omega
/-- A power that is too great ahead. -/
theorem pow_great (x:Int) (b n M:Nat) (hb:isBits x b) (h:2≤b∧32*M≤(b - 1)*n):pw M≤x ^ n:=by
 rcases hb with ⟨_,h0⟩ | ⟨b1,b2,b3⟩
 · omega
 · have h1:=pow_le_pow (Int.le_of_lt (p2_pos (b - 1))) b2 n
   rw [p2_pow] at h1;have h2:=p2_mono (j:=32*M) (k:=(b - 1)*n) h.2;rw [pw_p2];omega
theorem can_len_pw {zs:List Int} (h:can zs) (M:Nat):(zs.length≤M↔val zs<pw M):=by
 constructor
 · intro hl
   have h1:=(val_bound h.1).2;have h2:=pw_mono hl;omega
 · intro hv
   by_cases hl:zs.length≤M
   · exact hl
   · have h1:=can_low h (by omega)
     have h2:=pw_mono (j:=M) (k:=zs.length - 1) (by omega);omega
theorem tooGreat_any {B:Nat} {w:World} {v:Value} {xs:List Int} (n M:Nat) (h:Rd B w v xs) (hl:xs.length≤17592186044415) (hn:n<9223372036854775808) (hM:M≤2147483647) :
    Calls Tryz.prog 197 #[v,.int .i64 n,.int .i64 M] w fun e w'=>∃ b:Nat,isBits (val xs) b∧e=.returned (.bool (decide (2≤b∧32*M≤(b - 1)*n)))∧w'=w:=by
 go_enter Tryz.func197,Tryz.ntmps197
 go_wp2_with fail
 refine (bits_any h hl).mono ?_;rintro e w' ⟨b,rfl,hb,lb,rfl⟩;have HB:Hid (isBits (val xs) b):=hb;clear hb;by_cases h2:b<2
 · go_wp2
   go_ret
   exact ⟨b,HB.out,ret_bool (decide_eq_false (fun h=>by omega)).symm,rfl⟩
 · obtain ⟨c,rfl⟩:∃ c,b=c+1:=⟨b - 1,by omega⟩
   have e1:(((c+1:Nat):Int) - 1)=(c:Int):=by omega
   have hm:=Tryz.bits_Mul64 c n (by omega) (by omega) w;generalize hH:c*n/18446744073709551616=hi at *;generalize hL:c*n % 18446744073709551616=lo at *;have HH:Hid (c*n/18446744073709551616=hi):=hH;have HL:Hid (c*n % 18446744073709551616=lo):=hL;have blo:lo<18446744073709551616:=by omega
   clear hH hL
   go_wp2_with fail
   refine hm.mono ?_;rintro e w' ⟨rfl,hw⟩;subst hw;by_cases hhi:0<hi
   · go_wp2
     go_ret
     refine ⟨c+1,HB.out,ret_bool (decide_eq_true ⟨by omega,?_⟩).symm,rfl⟩;have:=HH.out;show 32*M≤c*n;omega
   · obtain rfl:hi=0:=by omega
     go_wp2
     go_ret
     refine ⟨c+1,HB.out,ret_bool ?_,rfl⟩;have h3:=HH.out;have h4:=HL.out;show decide (32*min (M:Int) 2147483647≤(lo:Int))=decide (2≤c+1∧32*M≤c*n);rw [decide_eq_decide];omega
/-- n without its last j bits. -/
def shr' (n j:Nat):Nat:=n/2 ^ j
theorem shr'_zero (n:Nat):shr' n 0=n:=by unfold shr';simp
theorem shr'_step (n j:Nat):shr' n j=2*shr' n (j+1)+shr' n j % 2:=by
 unfold shr';rw [Nat.pow_succ,← Nat.div_div_eq_div_mul];omega
theorem shr'_le (n j:Nat):shr' n j≤n:=by unfold shr';exact Nat.div_le_self _ _
theorem pow_double (x:Int) (k m:Nat) (h:m=2*k):x ^ k*x ^ k=x ^ m:=by
 subst h;rw [← Int.pow_add];congr 1;omega
theorem pow_more (x:Int) (k m:Nat) (h:m=k+1):x ^ k*x=x ^ m:=by subst h;rw [Int.pow_succ]
theorem bitLen_63 (n:Nat) (h:n<9223372036854775808):Lib.bitLen n≤63∧shr' n (Lib.bitLen n)=0:=by
 by_cases h0:n=0
 · subst h0;exact ⟨by decide,by unfold shr';simp⟩
 · obtain ⟨h1,h2,h3⟩:=Lib.bitLenAux_bounds 64 n (Nat.lt_of_lt_of_le h (by decide)) h0
   have e:Lib.bitLenAux 64 n=Lib.bitLen n:=rfl;rw [e] at h1 h2 h3;refine ⟨?_,Nat.div_eq_of_lt h3⟩;by_cases hl:Lib.bitLen n≤63
   · exact hl
   · have h4:2 ^ 63≤2 ^ (Lib.bitLen n - 1):=Nat.pow_le_pow_right (by omega) (by omega)
     have h5:(2:Nat) ^ 63=9223372036854775808:=by decide
     omega
theorem and_one_i64 (x:Int) (h0:0≤x) (h1:x<9223372036854775808):bits .and .i64 x 1=x % 2:=
 bits_mask .i64 63 (by decide) (fun n a b=>by rw [IntKind.wrap_i64];omega) 1 (by decide) x h0 (by omega)
theorem bit_at (n j:Nat) (h:n<9223372036854775808):bits .and .i64 ((n:Int)/2 ^ j) 1=((shr' n j % 2:Nat):Int):=by
 have e:(n:Int)/2 ^ j=((shr' n j:Nat):Int):=by unfold shr';simp
 have:=shr'_le n j;rw [e,and_one_i64 _ (by omega) (by omega)];omega
theorem power_any {Br:Nat} {w:World} {v:Value} {xs:List Int} (n M:Nat) (h:Rd Br w v xs) (hBr:Br≤w.heap.size) (hl:xs.length≤8796093022207) (hn:n<9223372036854775808) (hM:M≤2147483647) :
    Calls Tryz.prog 178 #[v,.int .i64 n,.int .i64 M] w fun e w'=>Below w.heap.size w w'∧(pw M≤val xs ^ n→e=.returned (.tuple #[.slice none 0 0,.bool false])) ∧
     (val xs ^ n<pw M→∃ zs a c,can zs∧val zs=val xs ^ n∧e=.returned (.tuple #[.slice a zs.length c,.bool true])∧Own w.heap.size w' (.slice a zs.length c) zs):=by
 have hn0:decide ((n:Int)<0)=false:=by simp
 go_enter Tryz.func178,Tryz.ntmps178
 go_wp2_with fail
 refine (tooGreat_any n M h (by omega) hn hM).mono ?_;rintro e w' ⟨b,hb,rfl,hw⟩;have hw:=hw.symm;subst hw;by_cases ht:2≤b∧32*M≤(b - 1)*n
 · have hg:=pow_great _ _ _ _ hb ht
   have HG:Hid (pw M≤val xs ^ n):=hg;rw [decide_eq_true ht];clear hg ht hb;go_wp2
   go_ret2
   exact ⟨Below.refl _ _,fun _=>rfl,fun h=>by have:=HG.out;omega⟩
 · have hbd:=pow_bound _ _ _ _ hb ht
   have HBD:Hid (∀ k,k≤n→0≤val xs ^ k∧val xs ^ k<pw (2*M+1)):=hbd;rw [decide_eq_false ht];clear hbd ht hb
   go_wp2_with fail
   refine (beginAt_any 1 (by omega) (by omega) _).mono ?_;intro e w1 hm1;rw [one_limbs] at hm1;obtain ⟨a,c,rfl,ho,hb⟩:=hm1;have hz:=hb.size;have hlen:=Tryz.bits_Len (n:Int) (w1.alloc (.cells #[.slice a 1 c] 147)) (by omega) (by omega);obtain ⟨hbl,hb0⟩:=bitLen_63 n (by omega);rw [Int.toNat_natCast] at hlen;generalize Lib.bitLen n=L at *;have HB0:Hid (shr' n L=0):=hb0;clear hb0
   go_wp2_with fail
   refine hlen.mono ?_;rintro e w2 ⟨rfl,hw2⟩;have hw2:=hw2.symm;subst hw2;go_wp2
   go_loopw [9] (fun s wr=>∃ (j:Nat) (zs:List Int) (a:Option Addr) (c:Nat),j≤L∧s=.int .i64 ((j:Int) - 1)∧can zs∧Hid (val zs=val xs ^ (shr' n j))∧Box wr w1.heap.size 147 (.slice a zs.length c)∧Own w.heap.size wr (.slice a zs.length c) zs∧Below w.heap.size w wr)
    (fun s _=>(intOf s+1).toNat)
   case atStart=>exact ⟨L,[1],a,c,Nat.le_refl _,by go_num,can_one,by unfold Hid;rw [HB0.out];simp [val],heap_alloc_new _ _,ho.alloc _,hb.alloc (by omega) _⟩
   case round=>
    obtain ⟨j,zs,a2,c2,hjL,rfl,hcan,hval,hbox,hown,hbl2⟩:=hrel;have hc2:=cell_of_one hbox;have hsz:=hbl2.size;have hzl:zs.length≤2*M+1:=(can_len_pw hcan _).2 (by rw [hval.out];exact (HBD.out _ (shr'_le n j)).2);have hlt:=lt_of_block hbox
    cases j with
    | zero=>
     have hvz:=hval.out;rw [shr'_zero] at hvz;have HVZ:Hid (val zs=val xs ^ n):=hvz;have hlp:=can_len_pw hcan M;rw [hvz] at hlp;have HLP:Hid (zs.length≤M↔val xs ^ n<pw M):=hlp;clear hvz hlp;by_cases hm:zs.length≤M
     · go_wp2
       go_ret2
       have:=HLP.out.1 hm;exact ⟨hbl2,fun h=>by omega,fun _=>⟨zs,a2,c2,hcan,HVZ.out,rfl,hown⟩⟩
     · go_wp2
       go_ret2
       have:=HLP.out.2;exact ⟨hbl2,fun _=>rfl,fun h=>absurd (this h) hm⟩
    | succ j=>
     have ej:((j+1:Nat):Int) - 1=(j:Int):=by omega
     rw [ej];clear ej;have hrd:=h.below (hbl2.mono hBr);have hst:=shr'_step n j;have hz2:=hown.rd
     go_wp2_with fail
     refine (times_any hbox hown hz2 (Nat.le_refl _) (by omega)).mono ?_;rintro e w3 ⟨us,hcu,hvu,hlu,rfl,a3,c3,hbox3,hown3,hg3⟩;have hbit:=bit_at n j hn;rw [hval.out,pow_double _ (shr' n (j+1)) (2*shr' n (j+1)) rfl] at hvu;have hsz3:=hg3.size;have hb3:Below w.heap.size w w3:=hbl2.grown hg3 hsz (fun q hq=>by cases hq;exact hz);have ho3:=hown3.mono (base':=w.heap.size) hsz;by_cases hodd:shr' n j % 2=0
     · rw [hodd] at hbit hst
       have HVU:Hid (val us=val xs ^ shr' n j):=by unfold Hid;rw [hvu,hst];rfl
       clear hvu hst;go_wp2
       go_roundw
       case rel=>exact ⟨j,us,a3,c3,by omega,by go_num,hcu,HVU,hbox3,ho3,hb3⟩
       case measure=>simp [intOf]
     · have hodd':shr' n j % 2=1:=by omega
       rw [hodd'] at hbit hst;have HVU:Hid (val us*val xs=val xs ^ shr' n j):=by unfold Hid;rw [hvu];exact pow_more _ _ _ hst
       have hr3:=h.below (hb3.mono hBr);clear hvu hst hodd
       go_wp2_with fail
       refine (meant_rd hr3).mono ?_;rintro e w4 ⟨rfl,rfl⟩
       go_wp2_with fail
       refine (times_any hbox3 ho3 hr3.meant (by omega) (by have:=tr_length_le xs;omega)).mono ?_;rintro e w4 ⟨ts,hct,hvt,hlt',rfl,a4,c4,hbox4,hown4,hg4⟩;rw [val_tr,HVU.out] at hvt;have HVT:Hid (val ts=val xs ^ shr' n j):=hvt;clear hvt;go_wp2
       go_roundw
       case rel=>exact ⟨j,ts,a4,c4,by omega,by go_num,hct,HVT,hbox4,hown4.mono (by omega),hb3.grown hg4 (by omega) (fun q hq=>by cases hq;exact hz)⟩
       case measure=>simp [intOf]
/-- An answer with an error: no number. -/
def errOf (n:Int):Ending:=.returned (.tuple #[.agg #[.bool false,.slice none 0 0,.slice none 0 0],.int .i64 n])
end
end Go.Proofs.YtilbfkabfgnhpaaGreat
