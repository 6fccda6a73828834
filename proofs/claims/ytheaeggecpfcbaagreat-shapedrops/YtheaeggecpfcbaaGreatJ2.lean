/- (*strings.Builder).copyCheck, WriteString, at this program (after the library's own text for other programs). -/
import Derived.Test.YtheaeggecpfcbaaGreatJ1
import Derived.Test.YtheaeggecpfcbaaGreatShelf
import Derived.Lib.AppendStr
import Derived.Lib.ItoaMem
import Derived.Deep.LoopGhost
set_option maxRecDepth 100000
set_option maxHeartbeats 4000000
set_option linter.unusedVariables false
set_option linter.unusedSimpArgs false
namespace Go.Proofs.YtheaeggecpfcbaaGreat
section
open Go.RowKit
theorem Kept2.trans {a b c:World} {B:Nat} {r:Option Nat} (h:Kept2 a b B r) (k:Kept2 b c B r):Kept2 a c B r:=
 ⟨k.os.trans h.os,k.tape.trans h.tape,k.output.trans h.output,Nat.le_trans h.size k.size,fun i hi hB hr=>(k.block i (Nat.lt_of_lt_of_le hi h.size) hB hr).trans (h.block i hi hB hr)⟩
theorem Own.kept2 {base B:Nat} {w w':World} {v:Value} {xs:List Int} {r:Option Nat} (h:Own base w v xs) (hk:Kept2 w w' B r) (hB:v.ownBlock≠some B) (hr:∀ k,v.ownBlock=some k→some k≠r):Own base w' v xs:=by
 obtain ⟨hl,h1,h | ⟨g,cap,cur,rfl,hg,hh,rest⟩⟩:=h
 · exact ⟨hl,h1,Or.inl h⟩
 · exact ⟨hl,h1,Or.inr ⟨g,cap,cur,rfl,hg,by rw [hk.block g (lt_of_block hh) (fun e=>hB (by rw [e];rfl)) (hr g rfl)];exact hh,rest⟩⟩
theorem limbs_of {qs:List Int} (cq:can qs) (n:Int) (h0:0<n) (h1:n<4294967296) (h:val qs=n):qs=[n]:=by
 refine can_inj cq ⟨fun x hx=>by simp at hx;omega,Or.inr (by simp;omega)⟩ ?_;rw [h];simp [val]
theorem of_small (n:Int) (h0:0<n) (h1:n<4294967296):tr [n % 4294967296,n/4294967296]=[n]:=by
 have h:=of_limb n (by omega) h1;exact limbs_of h.2.1 n h0 h1 h.1
theorem compare_bl {B B':Nat} {w:World} {v1 v2:Value} {xs ys:List Int} (h1:Rd B w v1 xs) (h2:Rd B' w v2 ys) :
    Calls Tryz.prog 186 #[v1,v2] w fun e w'=>e=.returned (.int .i64 (cmpI (val xs) (val ys)))∧Below w.heap.size w w':=by
 refine (compare_rd h1 h2).mono ?_;rintro e w' ⟨rfl,n,rfl⟩;exact ⟨rfl,below_drewN' (Below.refl _ _) n⟩
theorem rd_alloc {B:Nat} {w:World} {v:Value} {xs:List Int} (h:Rd B w v xs) (hB:B≤w.heap.size) (o:Obj):Rd (w.heap.size+1) (w.alloc o) v xs:=
 (h.below ((Below.refl _ w).alloc hB o)).mono (by omega)
theorem many2 {B1 B2:Nat} {w:World} {v1 v2:Value} {x1 x2:List Int} (h1:Rd B1 w v1 x1) (h2:Rd B2 w v2 x2) (b1:B1≤w.heap.size) (b2:B2≤w.heap.size) :
    Many (w.alloc (.cells #[v1,v2] 32)) w.heap.size 2 [v1,v2] [x1,x2] where
 lv:=rfl
 lx:=rfl
 lt:=by simp
 cell:=fun j hj=>by
  match j,hj with
  | 0,_=>simp
  | 1,_=>simp
 rd:=fun j hj=>by
  rw [show (w.alloc (.cells #[v1,v2] 32)).heap.size=w.heap.size+1 by simp]
  match j,hj with
  | 0,_=>exact rd_alloc h1 b1 _
  | 1,_=>exact rd_alloc h2 b2 _
section
variable {B1 B2 B3:Nat} {w:World} {v1 v2 v3:Value} {x1 x2 x3:List Int}
end
/-- Are limbs right? -/
def rightB (xs:List Int):Bool:=decide ((tr xs).length=xs.length)
theorem right_any {B:Nat} {w:World} {v:Value} {xs:List Int} (h:Rd B w v xs) :
    Calls Tryz.prog 126 #[v] w fun e w'=>e=.returned (.bool (rightB xs))∧w=w':=by
 have m:=meant_rd h;have hle:=tr_length_le xs;rw [← tr_length] at m;obtain ⟨_,a,c,rfl,hc,hb,_,_⟩:=h;have m':Says1 Tryz.prog 133 (.slice a xs.length c) w (.slice a (tr xs).length c):=m;clear m;have hr:rightB xs=decide ((tr xs).length=xs.length):=rfl;rw [hr];generalize (tr xs).length=k at *;generalize xs.length=n at *;by_cases hk:k=n
 · have hkb:(((k:Nat):Int)==((n:Nat):Int))=true:=by simp;omega
   go_enter Tryz.func126,Tryz.ntmps126
   go_wp2_with fail
   refine (m').mono ?_;rintro e w' ⟨rfl,rfl⟩;go_wp2
   go_ret
   exact ⟨ret_bool (by simp [hk]),rfl⟩
 · have hkb:(((k:Nat):Int)==((n:Nat):Int))=false:=by simp;omega
   go_enter Tryz.func126,Tryz.ntmps126
   go_wp2_with fail
   refine (m').mono ?_;rintro e w' ⟨rfl,rfl⟩;go_wp2
   go_ret
   exact ⟨ret_bool (by simp [hk]),rfl⟩
end
section
theorem win_getD (A U C:List Int) (j i:Nat) (hA:A.length=j) (hi:i<U.length):(A++U++C).getD (j+i) 0=U.getD i 0:=by
 subst hA;simp only [List.getD,List.append_assoc];rw [List.getElem?_append_right (by omega),show A.length+i - A.length=i by omega,List.getElem?_append_left hi]
theorem win_set (A U C:List Int) (j i:Nat) (z:Int) (hA:A.length=j) (hi:i<U.length):(A++U++C).set (j+i) z=A++U.set i z++C:=by
 subst hA;rw [List.append_assoc,List.set_append_right _ _ (by omega),show A.length+i - A.length=i by omega,List.set_append_left _ _ hi,List.append_assoc]
/-- One step of: u less f times b. -/
theorem take_step (us ys:List Int) (i:Nat) (f c b V p t z b':Int) (hi:i<us.length) (hy:i<ys.length) (h:val us - (c+b)*pw i=V - f*val (ys.take i)) (hp:p=ys.getD i 0*f+c)
    (ht:us.getD i 0 - p % 4294967296 - b=z - b'*4294967296) :
    val (us.set i z) - (p/4294967296+b')*pw (i+1)=V - f*val (ys.take (i+1)):=by
 have hd:4294967296*(p/4294967296)+p % 4294967296=p:=Int.mul_ediv_add_emod p 4294967296;rw [val_set _ _ _ hi,val_take_succ ys i hy,pw_succ];generalize p/4294967296=q at *;generalize p % 4294967296=r at *;have k1:=congrArg (fun u=>u*pw i) (hd.trans hp);have k2:=congrArg (fun u=>u*pw i) ht;simp only [Int.add_mul,Int.sub_mul,Int.mul_add,Int.mul_assoc,Int.mul_comm,Int.mul_left_comm] at *;omega
theorem take_end (us:List Int) (n:Nat) (c b V z β:Int) (hn:n<us.length) (h:val us - (c+b)*pw n=V) (ht:us.getD n 0 - c - b=z - β*4294967296) :
    val (us.set n z) - β*pw (n+1)=V:=by
 rw [val_set _ _ _ hn,pw_succ];have k2:=congrArg (fun u=>u*pw n) ht;simp only [Int.add_mul,Int.sub_mul,Int.mul_add,Int.mul_assoc,Int.mul_comm,Int.mul_left_comm] at *;omega
/-- One step of: u and b together. -/
theorem back_step (us ys:List Int) (i:Nat) (c V t:Int) (hi:i<us.length) (hy:i<ys.length) (h:val us+c*pw i=V+val (ys.take i)) (ht:t=us.getD i 0+ys.getD i 0+c) :
    val (us.set i (t % 4294967296))+t/4294967296*pw (i+1)=V+val (ys.take (i+1)):=by
 have hd:4294967296*(t/4294967296)+t % 4294967296=t:=Int.mul_ediv_add_emod t 4294967296;rw [val_set _ _ _ hi,val_take_succ ys i hy,pw_succ];generalize t/4294967296=q at *;generalize t % 4294967296=r at *;have k1:=congrArg (fun u=>u*pw i) (hd.trans ht);simp only [Int.add_mul,Int.sub_mul,Int.mul_add,Int.mul_assoc,Int.mul_comm,Int.mul_left_comm] at *;omega
theorem back_end (us:List Int) (n:Nat) (c V t:Int) (hn:n<us.length) (h:val us+c*pw n=V) (ht:t=us.getD n 0+c) :
    val (us.set n (t % 4294967296))+t/4294967296*pw (n+1)=V:=by
 have hd:4294967296*(t/4294967296)+t % 4294967296=t:=Int.mul_ediv_add_emod t 4294967296;rw [val_set _ _ _ hn,pw_succ];generalize t/4294967296=q at *;generalize t % 4294967296=r at *;have k1:=congrArg (fun u=>u*pw n) (hd.trans ht);simp only [Int.add_mul,Int.sub_mul,Int.mul_add,Int.mul_assoc,Int.mul_comm,Int.mul_left_comm] at *;omega
theorem guess_high (u b d l t k P Q g:Int) (hP:0<P) (hb:b=d*P+l) (hl:0≤l) (hlP:l<P) (hu:u=t*P+k) (hk:0≤k) (hQ:u<(Q+1)*b) (hg:g*d≤t) (hg1:g≤4294967295) (hg0:0≤g) (hd:4294967296≤d):g≤Q+1:=by
 have hbp:0<b:=by
  have:0<d*P:=Int.mul_pos (by omega) hP;omega
 have h1:g*d*P≤t*P:=Int.mul_le_mul_of_nonneg_right hg (Int.le_of_lt hP);have h2:g*l≤4294967295*P:=Int.mul_le_mul hg1 (Int.le_of_lt hlP) hl (by omega);have h3:4294967296*P≤d*P:=Int.mul_le_mul_of_nonneg_right hd (Int.le_of_lt hP);have e1:(g - 1)*b=g*d*P+g*l - (d*P+l):=by rw [Int.sub_mul,Int.one_mul,hb,Int.mul_add,Int.mul_assoc]
 have h4:(g - 1)*b<(Q+1)*b:=by omega
 have h5:g - 1<Q+1:=Int.lt_of_mul_lt_mul_right h4 (Int.le_of_lt hbp);omega
end
section
open Go.RowKit
theorem Kept2.cell {w w':World} {B b:Nat} (h:Kept2 w w' B none) (hb:b<w.heap.size) (hne:b≠B) (o:Nat):w'.cell? ⟨b,o,none⟩=w.cell? ⟨b,o,none⟩:=
 World.cell?_of_block (w:=w) (h.block b hb hne (fun e=>by cases e))
/-- A row of the call's own that holds limbs A, then U, then C; and limbs ys of another block. -/
structure Win (base g j n L c gb ob:Nat) (w:World) (A U C ys:List Int):Prop where
 lA:A.length=j
 lU:U.length=n+1
 lL:(A++U++C).length=L
 own:Own base w (.slice (some ⟨g,0,none⟩) L c) (A++U++C)
 ne:gb≠g
 lt:gb<w.heap.size
 ly:lim ys
 lys:ys.length=n
 cell:∀ i,i<n→w.cell? ⟨gb,ob+i,none⟩=some (.int .u32 (ys.getD i 0))
section
variable {base g j n L c gb ob:Nat} {w w':World} {A U C ys:List Int}
theorem Win.at (h:Win base g j n L c gb ob w A U C ys) (i:Nat) (hi:i≤n):w.cell? ⟨g,j+i,none⟩=some (.int .u32 (U.getD i 0)):=by
 have e:=h.own.cellAt h.lL (j+i) (by have:=h.lL;have:=h.lA;have:=h.lU;simp at *;omega);rw [win_getD A U C j i h.lA (by rw [h.lU];omega)] at e;exact e
theorem Win.free (h:Win base g j n L c gb ob w A U C ys) (i:Nat):w.frozen? ⟨g,j+i,none⟩=false:=h.own.frozenAt h.lL (j+i)
theorem Win.limU (h:Win base g j n L c gb ob w A U C ys):lim U:=(lim_append.1 (lim_append.1 h.own.lim).1).2
theorem Win.set (h:Win base g j n L c gb ob w A U C ys) (i:Nat) (hi:i≤n) (z:Int) (hz:0≤z∧z<4294967296):Win base g j n L c gb ob (w.setCell ⟨g,j+i,none⟩ (.int .u32 z)) A (U.set i z) C ys:=by
 have e:=h.own.stored h.lL (j+i) z hz;rw [win_set A U C j i z h.lA (by rw [h.lU];omega)] at e;refine ⟨h.lA,by rw [List.length_set];exact h.lU,by have:=h.lL;simp at *;exact this,e,h.ne,by simp;exact h.lt,h.ly,h.lys,fun k hk => ?_⟩;rw [← h.cell k hk];exact (Kept2.setCell (Kept2.refl w g none) (p:=⟨g,j+i,none⟩) (Or.inl rfl) _).cell h.lt h.ne _
end
theorem and_mask (x:Int) (h0:0≤x) (h1:x<18446744073709551616):bits .and .u64 x 4294967295=x % 4294967296:=
 bits_mask .u64 64 (by decide) (fun n a b=>by rw [IntKind.wrap_u64];omega) 32 (by decide) x h0 (by omega)
theorem take_word (V C Y:Int) (hV:0≤V∧V<4294967296) (hC:0≤C∧C<4294967296) (hY:0≤Y∧Y≤1) :
    ∃ T z c',IntKind.u64.wrap (IntKind.u64.wrap (V - C) - Y)=T∧0≤T∧T<18446744073709551616∧T % 4294967296=z∧T/9223372036854775808=c'∧0≤c'∧c'≤1∧(0≤z∧z<4294967296)∧V - C - Y=z - c'*4294967296:=by
 refine ⟨_,_,_,rfl,?_,?_,rfl,rfl,?_,?_,?_,?_⟩
 all_goals (simp only [IntKind.wrap_u64];omega)
theorem takeTimes_any {base g j n L c gb ob:Nat} {w:World} {A U C ys:List Int} (f:Int) (cu bc:Nat) (hf0:0≤f) (hf1:f<4294967296) (hw:Win base g j n L c gb ob w A U C ys) (hn:n≤17592186044415) :
    Calls Tryz.prog 191 #[.slice (some ⟨g,j,none⟩) (n+1) cu,.slice (some ⟨gb,ob,none⟩) n bc,.int .u64 f] w fun e w'=>∃ U' β,e=.returned (.bool (decide (β=(1:Int))))∧(β=0∨β=1)∧val U' - β*pw (n+1)=val U - f*val ys∧Win base g j n L c gb ob w' A U' C ys∧Kept2 w w' g none:=by
 go_enter Tryz.func191,Tryz.ntmps191;go_wp2
 go_loopw [16,7,8] (fun s cr br wr=>∃ (i:Nat) (K b:Int) (V:List Int),i≤n∧s=.int .i64 i∧cr=.int .u64 K∧br=.int .u64 b∧0≤K∧K<4294967296∧0≤b∧b≤1∧Win base g j n L c gb ob wr A V C ys∧Kept2 w wr g none∧Hid (val V - (K+b)*pw i=val U - f*val (ys.take i)))
  (fun s _ _ _=>n - (intOf s).toNat)
 case atStart=>exact ⟨0,0,0,U,Nat.zero_le _,rfl,rfl,rfl,by omega,by omega,by omega,by omega,hw,Kept2.refl _ _ _,by unfold Hid;simp [val]⟩
 case round=>
  obtain ⟨i,K,b,V,hin,rfl,rfl,rfl,hK0,hK1,hb0,hb1,hV,hk,hval⟩:=hrel;have lV:=hV.limU;by_cases hlt:i<n
  · have hcy:=hV.cell i hlt
    have ry:=lim_getD hV.ly i;have hcu:=hV.at i (by omega);have hfu:=hV.free i;have ru:=lim_getD lV i;generalize hY:ys.getD i 0=Y at *;generalize hX:V.getD i 0=X at *;have HY:Hid (ys.getD i 0=Y):=hY;have HX:Hid (V.getD i 0=X):=hX;clear hY hX;have hyf:=mul_bound ry ⟨hf0,hf1⟩;have hp0:0≤Y*f+K:=by omega
    have hp1:Y*f+K<18446744073709551616:=by omega
    have hmask:=and_mask (Y*f+K) hp0 hp1;obtain ⟨T,z,b',eT,t0,t1,ez,eb,b0',b1',zr,heq⟩:=take_word X ((Y*f+K) % 4294967296) b ru (by omega) ⟨hb0,hb1⟩;have hS:=hV.set i (by omega) z zr;have HEQ:Hid (X - (Y*f+K) % 4294967296 - b=z - b'*4294967296):=heq;clear heq;go_wp2
    go_roundw
    case rel=>exact ⟨i+1,(Y*f+K)/4294967296,b',V.set i z,by omega,by go_num,rfl,rfl,by omega,by omega,b0',b1',hS,hk.setCell (Or.inl rfl) _,take_step V ys i f K b (val U) (Y*f+K) T z b' (by rw [hV.lU];omega) (by rw [hV.lys];omega) hval.out (by rw [HY.out]) (by rw [HX.out];exact HEQ.out)⟩
    case measure=>simp [intOf];omega
  · obtain rfl:i=n:=by omega
    have hcu:=hV.at i (by omega);have hfu:=hV.free i;have ru:=lim_getD lV i;generalize hX:V.getD i 0=X at *;have HX:Hid (V.getD i 0=X):=hX;clear hX;obtain ⟨T,z,b',eT,t0,t1,ez,eb,b0',b1',zr,heq⟩:=take_word X K b ru ⟨hK0,hK1⟩ ⟨hb0,hb1⟩;have hS:=hV.set i (by omega) z zr;have HEQ:Hid (X - K - b=z - b'*4294967296):=heq;clear heq;go_wp2
    go_ret
    refine ⟨V.set i z,b',ret_bool ?_,by omega,?_,hS,hk.setCell (Or.inl rfl) _⟩
    · show (b'==1)=decide (b'=1)
      rfl
    · refine take_end V i K b _ z b' (by rw [hV.lU];omega) ?_ (by rw [HX.out];exact HEQ.out)
      have h1:=hval.out;rw [List.take_of_length_le (by rw [hV.lys];omega)] at h1;exact h1
theorem addBack_any {base g j n L c gb ob:Nat} {w:World} {A U C ys:List Int} (cu bc:Nat) (hw:Win base g j n L c gb ob w A U C ys) (hn:n≤17592186044415) :
    Calls Tryz.prog 192 #[.slice (some ⟨g,j,none⟩) (n+1) cu,.slice (some ⟨gb,ob,none⟩) n bc] w fun e w'=>∃ U' k,e=.returned (.tuple #[])∧val U'+k*pw (n+1)=val U+val ys∧Win base g j n L c gb ob w' A U' C ys∧Kept2 w w' g none:=by
 go_enter Tryz.func192,Tryz.ntmps192;go_wp2
 go_loopw [10,4] (fun s cr wr=>∃ (i:Nat) (K:Int) (V:List Int),i≤n∧s=.int .i64 i∧cr=.int .u64 K∧0≤K∧K≤1∧Win base g j n L c gb ob wr A V C ys∧Kept2 w wr g none∧Hid (val V+K*pw i=val U+val (ys.take i)))
  (fun s _ _=>n - (intOf s).toNat)
 case atStart=>exact ⟨0,0,U,Nat.zero_le _,rfl,rfl,by omega,by omega,hw,Kept2.refl _ _ _,by unfold Hid;simp [val]⟩
 case round=>
  obtain ⟨i,K,V,hin,rfl,rfl,hK0,hK1,hV,hk,hval⟩:=hrel;have lV:=hV.limU;by_cases hlt:i<n
  · have hcy:=hV.cell i hlt
    have ry:=lim_getD hV.ly i;have hcu:=hV.at i (by omega);have hfu:=hV.free i;have ru:=lim_getD lV i;generalize hY:ys.getD i 0=Y at *;generalize hX:V.getD i 0=X at *;have HY:Hid (ys.getD i 0=Y):=hY;have HX:Hid (V.getD i 0=X):=hX;clear hY hX;have hS:=hV.set i (by omega) ((X+Y+K) % 4294967296) (by omega);go_wp2
    go_roundw
    case rel=>exact ⟨i+1,(X+Y+K)/4294967296,V.set i ((X+Y+K) % 4294967296),by omega,by go_num,rfl,by omega,by omega,hS,hk.setCell (Or.inl rfl) _,back_step V ys i K (val U) _ (by rw [hV.lU];omega) (by rw [hV.lys];omega) hval.out (by rw [HY.out,HX.out])⟩
    case measure=>simp [intOf];omega
  · obtain rfl:i=n:=by omega
    have hcu:=hV.at i (by omega);have hfu:=hV.free i;have ru:=lim_getD lV i;generalize hX:V.getD i 0=X at *;have HX:Hid (V.getD i 0=X):=hX;clear hX;have hS:=hV.set i (by omega) ((X+K) % 4294967296) (by omega);go_wp2
    go_end0
    refine ⟨V.set i ((X+K) % 4294967296),(X+K)/4294967296,rfl,?_,?_,?_⟩
    · refine back_end V i K _ _ (by rw [hV.lU];omega) ?_ (by rw [HX.out])
      have h1:=hval.out;rw [List.take_of_length_le (by rw [hV.lys];omega)] at h1;exact h1
    · exact hS
    · exact hk.setCell (Or.inl rfl) _
theorem quo_top (u b d l t k P Q:Int) (hP:0<P) (hb:b=d*P+l) (hl:0≤l) (hu:u=t*P+k) (hk:k<P) (hQ:Q*b≤u) (hQ0:0≤Q):Q*d≤t:=by
 have h1:Q*d*P≤u:=by
  have:Q*b=Q*d*P+Q*l:=by rw [hb,Int.mul_add,Int.mul_assoc]
  have:0≤Q*l:=Int.mul_nonneg hQ0 hl;omega
 have h3:Q*d*P<(t+1)*P:=by rw [Int.add_mul,Int.one_mul];omega
 have:=Int.lt_of_mul_lt_mul_right h3 (Int.le_of_lt hP);omega
theorem g_exit (top second u0 head G R:Int) (h:G*top+R=head) (ht:G*second≤R*4294967296+u0):G*(top*4294967296+second)≤head*4294967296+u0:=by
 rw [← h,Int.mul_add,Int.add_mul,← Int.mul_assoc];omega
theorem g_dec (top second u0 head G R Q:Int) (h:G*top+R=head) (ht:R*4294967296+u0<G*second) (hQ:Q*(top*4294967296+second)≤head*4294967296+u0) (hd:0<top*4294967296+second):Q<G:=by
 have h1:head*4294967296+u0<G*(top*4294967296+second):=by
  rw [← h,Int.mul_add,Int.add_mul,← Int.mul_assoc];omega
 exact Int.lt_of_mul_lt_mul_right (show Q*(top*4294967296+second)<G*(top*4294967296+second) by omega) (Int.le_of_lt hd)
theorem g_break (top second u0 head G R:Int) (h:G*top+R=head) (hR:4294967296≤R) (hh:head≤top*4294967296+4294967295) (ht:0<top) (hs:0≤second∧second<4294967296) (h0:0≤u0) (hG:0≤G):G≤4294967295∧G*(top*4294967296+second)≤head*4294967296+u0:=by
 have h1:G≤4294967295:=by
  by_cases hg:G≤4294967295
  · exact hg
  · have:4294967296*top≤G*top:=Int.mul_le_mul_of_nonneg_right (by omega) (Int.le_of_lt ht)
    omega
 refine ⟨h1,g_exit top second u0 head G R h ?_⟩;have h2:=(mul_bound ⟨hG,(by omega:G<4294967296)⟩ hs).2;omega
theorem g_first (top second u0 head Q:Int) (hQ:Q*(top*4294967296+second)≤head*4294967296+u0) (hQ0:0≤Q) (hs:0≤second) (hu:u0<4294967296) (ht:0<top):Q≤head/top:=by
 refine Int.le_ediv_of_mul_le ht ?_;have h1:0≤Q*second:=Int.mul_nonneg hQ0 hs;rw [Int.mul_add,← Int.mul_assoc] at hQ;omega
/-- The top limbs of the window and of the divisor. -/
theorem top_two (ys:List Int) (m:Nat) (h:ys.length=m+2):val ys=(ys.getD (m+1) 0*4294967296+ys.getD m 0)*pw m+val (ys.take m):=by
 have e:ys=ys.take (m+1+1):=by rw [List.take_of_length_le (by omega)]
 have h1:=val_take_succ ys (m+1) (by omega);have h2:=val_take_succ ys m (by omega);rw [← e] at h1;rw [h1,h2,pw_succ];generalize ys.getD m 0=a;generalize ys.getD (m+1) 0=b;rw [Int.add_mul,Int.mul_assoc b];omega
theorem top_three (us:List Int) (m:Nat) (h:us.length=m+2+1):val us=((us.getD (m+2) 0*4294967296+us.getD (m+1) 0)*4294967296+us.getD m 0)*pw m+val (us.take m):=by
 have e:us=us.take (m+2+1):=by rw [List.take_of_length_le (by omega)]
 have h0:=val_take_succ us (m+2) (by omega);have h1:=val_take_succ us (m+1) (by omega);have h2:=val_take_succ us m (by omega);rw [← e] at h0;rw [h0,h1,h2,show m+2=(m+1)+1 by omega];simp only [pw_succ];generalize us.getD m 0=a;generalize us.getD (m+1) 0=b;generalize us.getD (m+1+1) 0=c;have e1:((c*4294967296+b)*4294967296+a)*pw m=c*(4294967296*(4294967296*pw m))+b*(4294967296*pw m)+a*pw m:=by
  simp only [Int.add_mul,Int.mul_assoc]
 omega
theorem guessLimb_any {base g j m L c gb ob:Nat} {w:World} {A U C ys:List Int} (Q:Int) (cu bc:Nat) (hw:Win base g j (m+2) L c gb ob w A U C ys) (hn:m≤17592186044413) (htop:2147483648≤ys.getD (m+1) 0) (hQ0:0≤Q) (hQ1:Q<4294967296) (hlo:Q*val ys≤val U) (hhi:val U<(Q+1)*val ys) :
    Calls Tryz.prog 190 #[.slice (some ⟨g,j,none⟩) (m+2+1) cu,.slice (some ⟨gb,ob,none⟩) (m+2) bc] w fun e w'=>(∃ G,e=.returned (.int .u64 G)∧Q≤G∧G≤Q+1∧G≤4294967295)∧∃ k,w'=w.drewN k:=by
 have ey:=top_two ys m hw.lys;have eu:=top_three U m hw.lU;have bl:=val_bound (lim_take hw.ly m);have bk:=val_bound (lim_take hw.limU m);have ll:(ys.take m).length=m:=by have:=hw.lys;simp;omega
 have lk:(U.take m).length=m:=by have:=hw.lU;simp;omega
 rw [ll] at bl;rw [lk] at bk;have c1:=hw.cell (m+1) (by omega);have c0:=hw.cell m (by omega);have d2:=hw.at (m+2) (by omega);have d1:=hw.at (m+1) (by omega);have d0:=hw.at m (by omega);have rt:=lim_getD hw.ly (m+1);have rs:=lim_getD hw.ly m;have r2:=lim_getD hw.limU (m+2);have r1:=lim_getD hw.limU (m+1);have r0:=lim_getD hw.limU m;generalize ys.getD (m+1) 0=top at *;generalize ys.getD m 0=second at *;generalize U.getD (m+2) 0=u2 at *;generalize U.getD (m+1) 0=u1 at *;generalize U.getD m 0=u0 at *;have hP:=pw_pos m;have F1:Hid (Q*(top*4294967296+second)≤(u2*4294967296+u1)*4294967296+u0):=quo_top _ _ _ _ _ _ (pw m) Q hP ey bl.1 eu bk.2 hlo hQ0;have F2:Hid (∀ G:Int,0≤G→G≤4294967295→G*(top*4294967296+second)≤(u2*4294967296+u1)*4294967296+u0→G≤Q+1):=fun G g0 g1 g2=>guess_high _ _ _ _ _ _ (pw m) Q G hP ey bl.1 bl.2 eu bk.1 hhi g2 g1 g0 (by omega);have F3:u2≤top:=by
  by_cases h:u2≤top
  · exact h
  · exfalso
    have h1:val U<4294967296*val ys:=by
     have:(Q+1)*val ys≤4294967296*val ys:=Int.mul_le_mul_of_nonneg_right (by omega) (val_bound hw.ly).1;omega
    have h2:((top+1)*4294967296*4294967296)*pw m≤((u2*4294967296+u1)*4294967296+u0)*pw m:=Int.mul_le_mul_of_nonneg_right (by omega) (Int.le_of_lt hP);have h3:(top*4294967296+second+1)*pw m≤((top+1)*4294967296)*pw m:=Int.mul_le_mul_of_nonneg_right (by omega) (Int.le_of_lt hP);have h4:((top+1)*4294967296*4294967296)*pw m=4294967296*(((top+1)*4294967296)*pw m):=by rw [Int.mul_comm ((top+1)*4294967296) 4294967296,Int.mul_assoc]
    have h5:(top*4294967296+second+1)*pw m=(top*4294967296+second)*pw m+pw m:=by rw [Int.add_mul _ 1,Int.one_mul]
    rw [h4] at h2;rw [h5] at h3;generalize ((top+1)*4294967296)*pw m=X1 at *;generalize (top*4294967296+second)*pw m=X2 at *;generalize ((u2*4294967296+u1)*4294967296+u0)*pw m=X3 at *;omega
 clear hlo hhi ey eu bl bk ll lk hP hw;have e1:((m+2:Nat):Int) - 1=((m+1:Nat):Int):=by omega
 have e2:((m+2:Nat):Int) - 2=((m:Nat):Int):=by omega
 have hor:=or_add u2 u1 r2 r1;have htb:(top==0)=false:=by simp;omega
 have hH0:0≤u2*4294967296+u1:=by omega
 have hH1:u2*4294967296+u1<18446744073709551616:=by omega
 have hH2:u2*4294967296+u1≤top*4294967296+4294967295:=by omega
 generalize hHH:u2*4294967296+u1=head at *;have G0:=g_first top second u0 head Q F1.out hQ0 rs.1 r0.2 (by omega);have hdm:top*(head/top)+head % top=head:=Int.mul_ediv_add_emod head top;have q0:0≤head/top:=Int.ediv_nonneg hH0 (by omega);have q1:head/top<8589934592:=Int.ediv_lt_of_lt_mul (by omega) (by omega);have m0:0≤head % top:=Int.emod_nonneg _ (by omega);have m1:head % top<top:=Int.emod_lt_of_pos _ (by omega);generalize hQQ:head/top=qh at *;generalize hMM:head % top=rh at *;go_enter Tryz.func190,Tryz.ntmps190;have HDM:Hid (qh*top+rh=head):=by unfold Hid;rw [Int.mul_comm];exact hdm
 clear hdm;go_wp2
 go_quiet (fail)
 go_wp2
 go_quiet (fail)
 go_wp2
 go_quiet (fail)
 go_wp2
 have HMM:Hid (head % top=rh):=hMM;have HQQ:Hid (head/top=qh):=hQQ;clear hQQ hMM hHH
 go_loopw [9,10] (fun s r wr=>(∃ k,wr=w.drewN k)∧∃ G R:Int,s=.int .u64 G∧r=.int .u64 R∧0≤G∧G<8589934592∧0≤R∧R<4294967296∧Hid (G*top+R=head)∧Q≤G)
  (fun s _ _=>(intOf s).toNat)
 case atStart=>exact ⟨⟨_,drew3 _ _ _ _⟩,qh,rh,by rw [HQQ.out],by rw [HMM.out],q0,q1,m0,by omega,HDM,G0⟩
 case round=>
  obtain ⟨⟨k,rfl⟩,G,R,rfl,rfl,hG0,hG1,hR0,hR1,hGR,hQG⟩:=hrel;have hdec:∀ (hlt:Q<G),Hid ((G - 1)*top+(R+top)=head):=by
   intro _;unfold Hid;rw [← hGR.out,Int.sub_mul];omega
  by_cases hbig:4294967295<G
  · have hst:=hdec (by omega)
    clear hdec;by_cases hbr:4294967295<R+top
    · have hx:=g_break top second u0 head (G - 1) (R+top) hst.out (by omega) hH2 (by omega) rs r0.1 (by omega)
      have hx2:=F2.out (G - 1) (by omega) hx.1 hx.2;have HX:Hid (G - 1≤Q+1∧G - 1≤4294967295):=⟨hx2,hx.1⟩;clear hx hx2;go_wp2
      go_ret
      exact ⟨⟨G - 1,rfl,by omega,HX.out.1,HX.out.2⟩,_,rfl⟩
    · go_wp2
      go_roundw
      case rel=>exact ⟨⟨_,rfl⟩,G - 1,R+top,rfl,rfl,by omega,by omega,by omega,by omega,hst,by omega⟩
      case measure=>simp [intOf];omega
  · have hgs:=mul_bound ⟨hG0,(by omega:G<4294967296)⟩ rs
    have hor2:=or_add R u0 ⟨hR0,hR1⟩ r0;by_cases htest:R*4294967296+u0<G*second
    · have hQG2:=g_dec top second u0 head G R Q hGR.out htest F1.out (by omega)
      have hst:=hdec hQG2;clear hdec;by_cases hbr:4294967295<R+top
      · have hx:=g_break top second u0 head (G - 1) (R+top) hst.out (by omega) hH2 (by omega) rs r0.1 (by omega)
        have hx2:=F2.out (G - 1) (by omega) hx.1 hx.2;have HX:Hid (G - 1≤Q+1∧G - 1≤4294967295):=⟨hx2,hx.1⟩;clear hx hx2;go_wp2
        go_ret
        exact ⟨⟨G - 1,rfl,by omega,HX.out.1,HX.out.2⟩,_,rfl⟩
      · go_wp2
        go_roundw
        case rel=>exact ⟨⟨_,rfl⟩,G - 1,R+top,rfl,rfl,by omega,by omega,by omega,by omega,hst,by omega⟩
        case measure=>simp [intOf];omega
    · have hx:=F2.out G hG0 (by omega) (g_exit top second u0 head G R hGR.out (by omega))
      clear hdec;go_wp2
      go_ret
      exact ⟨⟨G,rfl,hQG,hx,by omega⟩,_,rfl⟩
theorem quotientLimb_any {base g j m L c gb ob:Nat} {w:World} {A U C ys:List Int} (cu bc:Nat) (hw:Win base g j (m+2) L c gb ob w A U C ys) (hn:m≤17592186044413) (htop:2147483648≤ys.getD (m+1) 0) (hlt:val U<4294967296*val ys) :
    Calls Tryz.prog 182 #[.slice (some ⟨g,j,none⟩) (m+2+1) cu,.slice (some ⟨gb,ob,none⟩) (m+2) bc] w fun e w'=>∃ U',e=.returned (.int .u32 (val U/val ys))∧(0≤val U/val ys∧val U/val ys<4294967296)∧val U'=val U % val ys∧Win base g j (m+2) L c gb ob w' A U' C ys∧Kept2 w w' g none:=by
 have hb0:0<val ys:=by
  have h1:=(val_bound hw.ly).1;have h2:=(val_bound hw.limU).1;omega
 have hu0:=(val_bound hw.limU).1;have hdm:val ys*(val U/val ys)+val U % val ys=val U:=Int.mul_ediv_add_emod _ _;have q0:0≤val U/val ys:=Int.ediv_nonneg hu0 (by omega);have q1:val U/val ys<4294967296:=Int.ediv_lt_of_lt_mul hb0 hlt;have m0:0≤val U % val ys:=Int.emod_nonneg _ (by omega);have m1:val U % val ys<val ys:=Int.emod_lt_of_pos _ hb0;have hbw:=(val_bound hw.ly).2;have hpw:pw ys.length≤pw (m+2+1):=pw_mono (by rw [hw.lys];omega);generalize val U/val ys=Q at *;generalize val U % val ys=r at *;rw [Int.mul_comm] at hdm;have g1:=guessLimb_any Q cu bc hw hn htop q0 q1 (by omega) (by rw [Int.add_mul];omega);have HD:Hid (Q*val ys+r=val U):=hdm;have HB:Hid (0<val ys∧val ys≤pw (m+2+1)∧r<val ys):=⟨hb0,by omega,m1⟩;clear hdm hlt hpw hb0 hu0 m1 hbw;go_enter Tryz.func182,Tryz.ntmps182
 go_wp2_with fail
 refine (g1).mono ?_;rintro e w1 ⟨⟨G,rfl,hG1,hG2,hG3⟩,k,rfl⟩;clear g1;have hw1:Win base g j (m+2) L c gb ob (w.drewN k) A U C ys:=⟨hw.lA,hw.lU,hw.lL,hw.own,hw.ne,hw.lt,hw.ly,hw.lys,hw.cell⟩;have hk1:Kept2 w (w.drewN k) g none:=⟨rfl,rfl,rfl,Nat.le_refl _,fun _ _ _ _=>rfl⟩
 go_wp2_with fail
 refine (takeTimes_any G cu bc (by omega) (by omega) hw1 (by omega)).mono ?_;rintro e w2 ⟨U2,β,rfl,hβ,hv2,hw2,hk2⟩;have b2:=val_bound hw2.limU;rw [hw2.lU] at b2;have hcase:(G=Q∧β=0∧val U2=r)∨(G=Q+1∧β=1∧val U2=r - val ys+pw (m+2+1)):=by
  have h1:=HD.out;have h2:=HB.out;by_cases hg:G=Q
  · subst hg
    left;rcases hβ with rfl | rfl
    · exact ⟨rfl,rfl,by omega⟩
    · exfalso;omega
  · right
    have hg:G=Q+1:=by omega
    subst hg;rw [Int.add_mul] at hv2;rcases hβ with rfl | rfl
    · exfalso;omega
    · exact ⟨rfl,rfl,by omega⟩
 rcases hcase with ⟨rfl,rfl,hv⟩ | ⟨rfl,rfl,hv⟩
 · have HV:Hid (val U2=r):=hv
   clear hv hv2 b2;go_wp2
   go_ret
   exact ⟨U2,rfl,⟨q0,q1⟩,HV.out,hw2,hk1.trans hk2⟩
 · have HV:Hid (val U2=r - val ys+pw (m+2+1)):=hv
   clear hv hv2 b2
   go_wp2_with fail
   refine (addBack_any cu bc hw2 (by omega)).mono ?_;rintro e w3 ⟨U3,kk,rfl,hv3,hw3,hk3⟩;have b3:=val_bound hw3.limU;rw [hw3.lU] at b3;have HV3:Hid (val U3=r):=by
    unfold Hid;rw [HV.out] at hv3;have h2:=HB.out;have e1:val U3+kk*pw (m+2+1)=r+1*pw (m+2+1):=by omega
    have e2:(val U3+kk*pw (m+2+1)) % pw (m+2+1)=(r+1*pw (m+2+1)) % pw (m+2+1):=by rw [e1]
    rw [Int.add_mul_emod_self_right,Int.add_mul_emod_self_right,Int.emod_eq_of_lt b3.1 b3.2,Int.emod_eq_of_lt m0 (by omega)] at e2;exact e2
   clear hv3 b3;go_wp2
   go_ret
   exact ⟨U3,ret_int (by omega),⟨q0,q1⟩,HV3.out,hw3,(hk1.trans hk2).trans hk3⟩
theorem or_shift (s:Nat) (x k:Int) (hs:s≤31) (hx:0≤x∧x<4294967296) (hk:0≤k∧k<2 ^ s):bits .or .u64 (x*2 ^ s) k=x*2 ^ s+k:=by
 have h1:(2:Int) ^ s≤2147483648:=by
  have h:(2:Nat) ^ s≤2 ^ 31:=Nat.pow_le_pow_right (by omega) hs;have e:((2 ^ s:Nat):Int)=(2:Int) ^ s:=by simp
  rw [← e];omega
 have h0:(0:Int)<2 ^ s:=Int.pow_pos (by omega);have h2:x*2 ^ s≤4294967295*2147483648:=Int.mul_le_mul (by omega) h1 (by omega) (by omega);have h3:0≤x*2 ^ s:=Int.mul_nonneg hx.1 (by omega);exact bits_join .u64 64 (by decide) (fun n a b=>by rw [IntKind.wrap_u64];omega) s _ _ h3 (by exact Int.mul_emod_left _ _) (by omega) hk.1 hk.2 (by omega)
theorem up_step (zs xs:List Int) (i:Nat) (c k t:Int) (hi:i<zs.length) (hx:i<xs.length) (h0:zs.getD i 0=0) (h:val zs+k*pw i=val (xs.take i)*c) (ht:t=xs.getD i 0*c+k) :
    val (zs.set i (t % 4294967296))+t/4294967296*pw (i+1)=val (xs.take (i+1))*c:=by
 have hd:4294967296*(t/4294967296)+t % 4294967296=t:=Int.mul_ediv_add_emod t 4294967296;rw [val_set _ _ _ hi,h0,val_take_succ xs i hx,pw_succ];generalize t/4294967296=q at *;generalize t % 4294967296=r at *;have k1:=congrArg (fun u=>u*pw i) (hd.trans ht);simp only [Int.add_mul,Int.sub_mul,Int.mul_add,Int.mul_assoc,Int.mul_comm,Int.mul_left_comm,Int.sub_zero] at *;omega
theorem shiftedUp_walk {n ac:Nat} {a:Option Addr} {xs:List Int} {w:World} (s:Nat) (hs:s≤31) (hx:Hid (xs.length=n)) (lx:lim xs) (hn:n≤17592186044415)
    (ka:0<n→∃ g o,a=some ⟨g,o,none⟩∧g<w.heap.size∧∀ j,j<n→w.cell? ⟨g,o+j,none⟩=some (.int .u32 (xs.getD j 0))) :
    Calls Tryz.prog 181 #[.slice a n ac,.int .i64 s] w fun e w'=>∃ zs,e=.returned (.slice (some ⟨w.heap.size,0,none⟩) (n+1) (n+1))∧zs.length=n+1∧val zs=val xs*2 ^ s∧Own w.heap.size w' (.slice (some ⟨w.heap.size,0,none⟩) (n+1) (n+1)) zs∧Below w.heap.size w w':=by
 obtain ⟨i0,hi,hz0,hz1,hz2⟩:=info_parts info_u32;have hc0:(0:Int)<2 ^ s:=Int.pow_pos (by omega);have hc1:(2:Int) ^ s≤2147483648:=by
  have h:(2:Nat) ^ s≤2 ^ 31:=Nat.pow_le_pow_right (by omega) hs;have e:((2 ^ s:Nat):Int)=(2:Int) ^ s:=by simp
  rw [← e];omega
 go_enter Tryz.func181,Tryz.ntmps181
 go_wp2_with (at_make;refine wpList_make_full _ rfl _ _ 32 rfl w.heap.size 92 i0 (.int .u32 0) 1 Tryz.underlying32 hi hz0 hz1 _ _ _ _ (n+1) rfl rfl (by omega) (by omega) ?b2 ?b3 (Nat.le_refl _) ?_)
 case b2=>rw [hz2];omega
 case b3=>unfold maxLen;omega
 intro w0 hown0 hgrow0;have hO:=own_made hown0;have hb0:Below w.heap.size w w0:=(Below.refl _ _).grown hgrow0 (Nat.le_refl _) (fun k h=>by cases h);clear hown0 hgrow0;go_wp2
 go_loopw [16,6] (fun r cr wr=>∃ (i:Nat) (K:Int) (zs:List Int),i≤n∧r=.int .i64 i∧cr=.int .u64 K∧0≤K∧K<2 ^ s∧Hid (zs.length=n+1)∧Own w.heap.size wr (.slice (some ⟨w.heap.size,0,none⟩) (n+1) (n+1)) zs∧Below w.heap.size w wr∧Hid (val zs+K*pw i=val (xs.take i)*2 ^ s)∧Hid (∀ k,i≤k→zs.getD k 0=0))
  (fun r _ _=>n - (intOf r).toNat)
 case atStart=>exact ⟨0,0,List.replicate (n+1) 0,Nat.zero_le _,rfl,rfl,by omega,hc0,List.length_replicate,hO,hb0,by unfold Hid;rw [val_replicate];simp [val],fun k _=>by simp [List.getD,List.getElem?_replicate];split <;> rfl⟩
 case round=>
  obtain ⟨i,K,zs,hin,rfl,rfl,hK0,hK1,hzl,hown,hbl,hval,hzero⟩:=hrel;by_cases hlt:i<n
  · obtain ⟨g,o,hpa,hg,hpc⟩:=ka (by omega)
    subst hpa;have hcx:wr.cell? ⟨g,o+i,none⟩=some (.int .u32 (xs.getD i 0)):=(hbl.cell hg).trans (hpc i hlt);have rx:=lim_getD lx i;have hcz:=hown.cellAt hzl.out i (by omega);have hfz:=hown.frozenAt hzl.out i;generalize hX:xs.getD i 0=X at *;have HX:Hid (xs.getD i 0=X):=hX;have hor:=or_shift s X K hs rx ⟨hK0,hK1⟩;have ht0:0≤X*2 ^ s:=Int.mul_nonneg rx.1 (by omega);have ht1:X*2 ^ s≤4294967295*2 ^ s:=Int.mul_le_mul_of_nonneg_right (by omega) (by omega);clear hX hpc ka hO hb0;have hq:(X*2 ^ s+K)/4294967296<2 ^ s:=by omega
    have hS:=hown.stored hzl.out i ((X*2 ^ s+K) % 4294967296) (by omega);go_wp2
    go_roundw
    case rel=>exact ⟨i+1,(X*2 ^ s+K)/4294967296,zs.set i ((X*2 ^ s+K) % 4294967296),by omega,by go_num,rfl,by omega,hq,(by unfold Hid;rw [List.length_set];exact hzl.out),hS,hbl.setCell (Nat.le_refl _) _,up_step zs xs i (2 ^ s) K _ (by rw [hzl.out];omega) (by rw [hx.out];exact hlt) (hzero.out i (Nat.le_refl _)) hval.out (by rw [HX.out]),zeros_set zs (i+1) i _ (fun k hk=>hzero.out k (by omega)) (by omega)⟩
    case measure=>simp [intOf];omega
  · obtain rfl:i=n:=by omega
    have hcz:=hown.cellAt hzl.out i (by omega);have hfz:=hown.frozenAt hzl.out i;have hS:=hown.stored hzl.out i K (by omega);clear ka hO hb0;go_wp2
    go_ret
    refine ⟨zs.set i K,rfl,by rw [List.length_set];exact hzl.out,?_,hS,hbl.setCell (Nat.le_refl _) _⟩;have h1:=hval.out;rw [List.take_of_length_le (by rw [hx.out];omega)] at h1;rw [val_set _ _ _ (by rw [hzl.out];omega),hzero.out i (Nat.le_refl _),Int.sub_zero];exact h1
/-- One step of a shift down: c d is a limb's size. -/
theorem down_step (xs vs:List Int) (j:Nat) (c d top t z:Int) (hc:0<c) (hcd:c*d=4294967296) (hj:j<xs.length) (hl:vs.length=xs.length) (ht:vs.take (j+1)=xs.take (j+1)) (lx:lim xs)
    (h:val (vs.drop (j+1))=val (xs.drop (j+1))/c) (htop:top=val (xs.drop (j+1)) % 4294967296) (he:t=top*4294967296+vs.getD j 0) (hz:z=t/c % 4294967296) :
    (vs.set j z).take j=xs.take j∧val ((vs.set j z).drop j)=val (xs.drop j)/c∧vs.getD j 0=val (xs.drop j) % 4294967296∧(0≤z∧z<4294967296):=by
 have e1:xs.drop j=xs.getD j 0 :: xs.drop (j+1):=by rw [List.drop_eq_getElem_cons hj];simp [List.getD,hj]
 have hj2:j<vs.length:=by omega
 have e2:(vs.set j z).drop j=z :: vs.drop (j+1):=by
  rw [List.drop_eq_getElem_cons (by simpa using hj2)];simp [List.drop_set]
 have e3:vs.getD j 0=xs.getD j 0:=by
  have h1:(vs.take (j+1)).getD j 0=vs.getD j 0:=by simp only [List.getD,List.getElem?_take];rw [if_pos (by omega)]
  have h2:(xs.take (j+1)).getD j 0=xs.getD j 0:=by simp only [List.getD,List.getElem?_take];rw [if_pos (by omega)]
  rw [← h1,← h2,ht]
 have rx:=lim_getD lx j;refine ⟨?_,?_,?_,by omega⟩
 · have h1:vs.take j=xs.take j:=by
    have:=congrArg (List.take j) ht;rw [List.take_take,List.take_take] at this;have e:min j (j+1)=j:=by omega
    rw [e] at this;exact this
   rw [List.take_set_of_le (Nat.le_refl _)];exact h1
 · rw [e1,e2]
   simp only [val,h];rw [e3] at he;generalize xs.getD j 0=x at *;generalize val (xs.drop (j+1))=X at *
   -- X = c q + r, top = c q2 + r
   have d1:c*(X/c)+X % c=X:=Int.mul_ediv_add_emod X c;have r0:0≤X % c:=Int.emod_nonneg _ (by omega);have r1:X % c<c:=Int.emod_lt_of_pos _ hc;have r2:top % c=X % c:=by rw [htop];exact Int.emod_emod_of_dvd X ⟨d,hcd.symm⟩
   have d2:c*(top/c)+top % c=top:=Int.mul_ediv_add_emod top c;rw [r2] at d2;generalize X/c=q at *;generalize X % c=r at *;generalize top/c=q2 at *
   -- the two numbers divided
   have f1:x+4294967296*X=(x+4294967296*r)+c*(4294967296*q):=by rw [← d1,Int.mul_add,Int.mul_left_comm];omega
   have f2:t=(x+4294967296*r)+c*(4294967296*q2):=by rw [he,← d2,Int.mul_comm _ 4294967296,Int.mul_add,Int.mul_left_comm];omega
   have f3:(x+4294967296*r)/c<4294967296:=Int.ediv_lt_of_lt_mul hc (by
    have:(r+1)*4294967296≤c*4294967296:=Int.mul_le_mul_of_nonneg_right (by omega) (by omega);rw [Int.mul_comm 4294967296 c];omega)
   have f4:0≤(x+4294967296*r)/c:=Int.ediv_nonneg (by omega) (by omega);rw [f1,Int.add_mul_ediv_left _ _ (by omega),hz,f2,Int.add_mul_ediv_left _ _ (by omega),Int.add_mul_emod_self_left,Int.emod_eq_of_lt f4 f3]
 · rw [e1,e3]
   simp only [val];omega
theorem hide {p:Prop} (h:p):Hid p:=h
theorem two_pow_split (s:Nat) (hs:s≤31):∃ d:Int,(2:Int) ^ s*d=4294967296:=by
 refine ⟨2 ^ (32 - s),?_⟩;rw [← Int.pow_add,show s+(32 - s)=32 by omega];rfl
theorem shiftDown_walk {base g L c:Nat} {xs:List Int} {w:World} (s:Nat) (hs:s≤31) (hxl:Hid (xs.length=L)) (hown:Own base w (.slice (some ⟨g,0,none⟩) L c) xs) (hn:L≤17592186044416) :
    Calls Tryz.prog 183 #[.slice (some ⟨g,0,none⟩) L c,.int .i64 s] w fun e w'=>e=.returned (.tuple #[])∧∃ zs,zs.length=L∧val zs=val xs/2 ^ s∧Own base w' (.slice (some ⟨g,0,none⟩) L c) zs∧Kept2 w w' g none:=by
 have hc0:(0:Int)<2 ^ s:=Int.pow_pos (by omega);have lx:=hown.lim;obtain ⟨d,hd⟩:=two_pow_split s hs;have HD:Hid ((2:Int) ^ s*d=4294967296):=hd;clear hd;go_enter Tryz.func183,Tryz.ntmps183;go_wp2
 go_loopw [5,4] (fun r ar wr=>∃ (j:Nat) (T:Int) (vs:List Int),j≤L∧r=.int .i64 ((j:Int) - 1)∧ar=.int .u64 T∧0≤T∧T<18446744073709551616∧Hid (vs.length=L)∧Own base wr (.slice (some ⟨g,0,none⟩) L c) vs∧Kept2 w wr g none∧Hid (vs.take j=xs.take j)∧Hid (val (vs.drop j)=val (xs.drop j)/2 ^ s)∧Hid (T % 4294967296=val (xs.drop j) % 4294967296))
  (fun r _ _=>(intOf r+1).toNat)
 case atStart=>exact ⟨L,0,xs,Nat.le_refl _,by go_num,rfl,by omega,by omega,hxl,hown,Kept2.refl _ _ _,rfl,(by unfold Hid;rw [List.drop_of_length_le (by rw [hxl.out];omega)];simp [val]),(by unfold Hid;rw [List.drop_of_length_le (by rw [hxl.out];omega)];simp [val])⟩
 case round=>
  obtain ⟨j,T,vs,hjL,rfl,rfl,hT0,hT1,hvl,hown3,hk3,htake,hval3,htop⟩:=hrel;clear hown
  cases j with
  | zero=>
   go_wp2
   go_end0
   exact ⟨rfl,vs,hvl.out,by simpa using hval3.out,hown3,hk3⟩
  | succ j=>
   have hcv:=hown3.cellAt hvl.out j (by omega);have hfv:=hown3.frozenAt hvl.out j;have rv:=lim_getD hown3.lim j;have ej:((j+1:Nat):Int) - 1=(j:Int):=by omega
   rw [ej];clear ej;have hst:=down_step xs vs j (2 ^ s) d (T % 4294967296) (T % 4294967296*4294967296+vs.getD j 0) _ hc0 HD.out (by rw [hxl.out];omega) (by rw [hxl.out,hvl.out]) htake.out lx hval3.out htop.out rfl rfl;generalize hV:vs.getD j 0=V at *;have HST:=hide hst;have zr:=hst.2.2.2;clear hst hV;have hor:=or_add (T % 4294967296) V (by omega) rv;have hwr:IntKind.u64.wrap (T*4294967296)=T % 4294967296*4294967296:=by rw [IntKind.wrap_u64];omega
   have hN0:0≤T % 4294967296*4294967296+V:=by omega
   have hN1:T % 4294967296*4294967296+V<18446744073709551616:=by omega
   have hq0:0≤(T % 4294967296*4294967296+V)/2 ^ s:=Int.ediv_nonneg hN0 (by omega);have hS:=hown3.stored hvl.out j ((T % 4294967296*4294967296+V)/2 ^ s % 4294967296) zr;go_wp2
   go_roundw
   case rel=>exact ⟨j,T % 4294967296*4294967296+V,vs.set j ((T % 4294967296*4294967296+V)/2 ^ s % 4294967296),by omega,by go_num,rfl,hN0,hN1,(by unfold Hid;rw [List.length_set];exact hvl.out),hS,hk3.setCell (Or.inl rfl) _,HST.out.1,HST.out.2.1,(by unfold Hid;rw [← HST.out.2.2.1];omega)⟩
   case measure=>simp [intOf]
def p2 (k:Nat):Int:=2 ^ k
theorem p2_add (j k:Nat):p2 (j+k)=p2 j*p2 k:=by unfold p2;rw [Int.pow_add]
theorem p2_succ (k:Nat):p2 (k+1)=2*p2 k:=by unfold p2;rw [Int.pow_succ,Int.mul_comm]
theorem p2_pos (k:Nat):0<p2 k:=by
 induction k with
 | zero=>decide
 | succ k ih=>rw [p2_succ];omega
theorem p2_mono {j k:Nat} (h:j≤k):p2 j≤p2 k:=by
 induction h with
 | refl=>exact Int.le_refl _
 | step _ ih=>rw [p2_succ];have:=p2_pos j;omega
theorem pw_p2 (k:Nat):pw k=p2 (32*k):=by
 induction k with
 | zero=>rfl
 | succ k ih=>
  rw [pw_succ,ih,show 32*(k+1)=32+32*k by omega,p2_add];rfl
/-- v has b bits. -/
def isBits (v:Int) (b:Nat):Prop:=(v=0∧b=0)∨(1≤b∧p2 (b - 1)≤v∧v<p2 b)
theorem bitLen_is (x:Nat) (h:x<4294967296):isBits (x:Int) (Lib.bitLen x):=by
 by_cases h0:x=0
 · subst h0;exact Or.inl ⟨rfl,rfl⟩
 · right
   have h64:x<2 ^ 64:=Nat.lt_of_lt_of_le h (by decide);obtain ⟨h1,h2,h3⟩:=Lib.bitLenAux_bounds 64 x h64 h0;have e:Lib.bitLenAux 64 x=Lib.bitLen x:=rfl;rw [e] at h1 h2 h3;refine ⟨h1,?_,?_⟩
   · unfold p2
     have:((2 ^ (Lib.bitLen x - 1):Nat):Int)≤(x:Int):=by exact_mod_cast h2
     simpa using this
   · unfold p2
     have:(x:Int)<((2 ^ Lib.bitLen x:Nat):Int):=by exact_mod_cast h3
     simpa using this
theorem isBits_top (xs:List Int) (k t:Nat) (hl:lim xs) (hk:xs.length=k+1) (h0:¬ xs.getD k 0=0) (ht:isBits (xs.getD k 0) t):isBits (val xs) (32*k+t)∧t≤32:=by
 have e:xs=xs.take (k+1):=by rw [← hk,List.take_length]
 have h1:val xs=val (xs.take k)+xs.getD k 0*pw k:=by rw [← val_take_succ xs k (by omega),← e]
 have h2:=val_bound (lim_take hl k);have lk:(xs.take k).length=k:=by simp;omega
 rw [lk] at h2;have h3:=lim_getD hl k;have hp:=pw_pos k;rcases ht with ⟨h,_⟩ | ⟨ht1,ht2,ht3⟩
 · exact absurd h h0
 · constructor
   · right
     refine ⟨by omega,?_,?_⟩
     · have:p2 (t - 1)*pw k≤xs.getD k 0*pw k:=Int.mul_le_mul_of_nonneg_right ht2 (Int.le_of_lt hp)
       rw [show 32*k+t - 1=(t - 1)+32*k by omega,p2_add,← pw_p2,h1];omega
     · have:(xs.getD k 0+1)*pw k≤p2 t*pw k:=Int.mul_le_mul_of_nonneg_right (by omega) (Int.le_of_lt hp)
       rw [Int.add_mul,Int.one_mul] at this;rw [show 32*k+t=t+32*k by omega,p2_add,← pw_p2,h1];omega
   · by_cases h:t≤32
     · exact h
     · have:=p2_mono (j:=32) (k:=t - 1) (by omega)
       have e32:p2 32=4294967296:=by decide
       omega
theorem bits_zero (v1:Value) (a:Option Addr) (c:Nat) (w:World) (h1:Says1 Tryz.prog 133 v1 w (.slice a 0 c)) :
    Calls Tryz.prog 185 #[v1] w fun e w'=>e=.returned (.int .i64 0)∧w=w':=by
 go_enter Tryz.func185,Tryz.ntmps185
 go_wp2_with fail
 refine (h1).mono ?_;rintro e w' ⟨rfl,rfl⟩;go_wp2
 go_ret
 exact ⟨rfl,rfl⟩
theorem bits_some (v1:Value) (b o c k:Nat) (t:Int) (w:World) (ht:0≤t∧t<4294967296) (hk:k≤17592186044415) (hc:w.cell? ⟨b,o+k,none⟩=some (.int .u32 t)) (hb:Lib.bitLen t.toNat≤32) (h1:Says1 Tryz.prog 133 v1 w (.slice (some ⟨b,o,none⟩) (k+1) c)) :
    Calls Tryz.prog 185 #[v1] w fun e w'=>e=.returned (.int .i64 ((32*k+Lib.bitLen t.toNat:Nat):Int))∧w=w':=by
 have hlen:=Tryz.bits_Len32 t w ht.1 (by omega);generalize Lib.bitLen t.toNat=l at *;have t0:(((k:Nat):Int)+1==0)=false:=by simp;omega
 go_enter Tryz.func185,Tryz.ntmps185
 go_wp2_with fail
 refine (h1).mono ?_;rintro e w' ⟨rfl,rfl⟩
 go_wp2_with fail
 refine hlen.mono ?_;rintro e w' ⟨rfl,hw⟩;subst hw;go_wp2
 go_ret
 exact ⟨ret_int (by simp),rfl⟩
/-- nat.Bits at whatever slice of limbs. -/
theorem bits_any {B:Nat} {w:World} {v:Value} {xs:List Int} (h:Rd B w v xs) (hn:xs.length≤17592186044415) :
    Calls Tryz.prog 185 #[v] w fun e w'=>∃ b:Nat,e=.returned (.int .i64 b)∧isBits (val xs) b∧b≤32*xs.length∧w=w':=by
 have m:=meant_rd h;have t:=h.meant;have hs:=tr_length_le xs;have ct:=tr_can h.lim;rw [← tr_length] at m t;have hv:=val_tr xs;obtain ⟨hl,a,p,e,_,_,hn2,r⟩:=t;rw [e] at m;generalize tr xs=us at *;by_cases h0:us.length=0
 · have hz:=(can_zero ct).1 h0
   rw [h0] at m;refine (bits_zero v a p w m).mono ?_;rintro e w' ⟨rfl,rfl⟩;exact ⟨0,rfl,Or.inl ⟨by rw [← hv];exact hz,rfl⟩,by omega,rfl⟩
 · obtain ⟨k,hk⟩:∃ k,us.length=k+1:=⟨us.length - 1,by omega⟩
   rcases r with r | ⟨b,o,rfl,_,hc⟩
   · exact absurd r h0
   · have hck:=hc k (by omega)
     have rk:=lim_getD hl k;have hne:¬ us.getD k 0=0:=by
      rcases ct.2 with h | h
      · omega
      · rw [hk] at h;simpa using h
     have hbl:=bitLen_is (us.getD k 0).toNat (by omega);rw [Int.toNat_of_nonneg rk.1] at hbl;have htop:=isBits_top us k _ hl hk hne hbl;rw [hk] at m;refine (bits_some v b o p k (us.getD k 0) w rk (by omega) hck htop.2 m).mono ?_;rintro e w' ⟨rfl,rfl⟩;exact ⟨_,rfl,by rw [← hv];exact htop.1,by omega,rfl⟩
end
section
theorem can_len_le2 {xs ys:List Int} (hx:can xs) (hy:can ys) (h:val ys≤val xs):ys.length≤xs.length:=by
 by_cases hl:ys.length≤xs.length
 · exact hl
 · have:=can_len_lt hx hy (by omega);omega
theorem win_split (vs:List Int) (i n L:Nat) (hl:vs.length=L) (hi:i+n+1≤L):∃ A U C,vs=A++U++C∧A.length=i∧U.length=n+1:=by
 refine ⟨vs.take i,(vs.drop i).take (n+1),(vs.drop i).drop (n+1),?_,by simp;omega,by simp;omega⟩;rw [List.append_assoc,List.take_append_drop,List.take_append_drop]
theorem win_val (A U C:List Int):val (A++U++C)=val A+pw A.length*(val U+pw U.length*val C):=by
 rw [List.append_assoc,val_append,val_append]
theorem win_drop (A U C:List Int) (i:Nat) (h:A.length=i):(A++U++C).drop i=U++C:=by
 subst h;rw [List.append_assoc,List.drop_left]
theorem win_top (A U C:List Int) (i n:Nat) (b:Int) (hA:A.length=i) (hU:U.length=n+1) (hl:lim (A++U++C)) (hb:val ((A++U++C).drop (i+1))<b) (hp:b≤pw n):val C=0∧val U<4294967296*b:=by
 have lU:lim U:=(lim_append.1 (lim_append.1 hl).1).2;have lC:lim C:=(lim_append.1 hl).2
 cases U with
 | nil=>simp at hU
 | cons x V=>
  have e:(A++x :: V++C).drop (i+1)=V++C:=by
   rw [← List.drop_drop,win_drop A (x :: V) C i hA];rfl
  rw [e,val_append] at hb;have lV:V.length=n:=by simpa using hU
  rw [lV] at hb;rw [lim_cons] at lU;have hV:=(val_bound lU.2).1;have hC:=(val_bound lC).1;have hz:val C=0:=by
   by_cases h:val C=0
   · exact h
   · have:pw n*1≤pw n*val C:=Int.mul_le_mul_of_nonneg_left (by omega) (Int.le_of_lt (pw_pos n))
     omega
  refine ⟨hz,?_⟩;rw [hz] at hb;simp only [val];omega
theorem long_next (A U U' C:List Int) (i:Nat) (b V0:Int) (qs:List Int) (hA:A.length=i) (hU:U'.length=U.length) (hC:val C=0) (hb:0<b) (hv:val U'=val U % b) (hq:i<qs.length) (hq0:qs.getD i 0=0)
    (h:V0=val (A++U++C)+val qs*b) :
    V0=val (A++U'++C)+val (qs.set i (val U/b))*b∧val ((A++U'++C).drop i)<b:=by
 have hd:b*(val U/b)+val U % b=val U:=Int.mul_ediv_add_emod _ _;constructor
 · rw [h,win_val,win_val,hC,hv,val_set _ _ _ hq,hq0,hA]
   generalize val U/b=q at *;generalize val U % b=r at *;rw [← hd];simp only [Int.add_mul,Int.sub_mul,Int.mul_add,Int.mul_assoc,Int.mul_comm,Int.mul_left_comm,Int.sub_zero,Int.mul_zero,Int.add_zero];omega
 · rw [win_drop A U' C i hA,val_append,hC,hv]
   have:=Int.emod_lt_of_pos (val U) hb;simp;exact this
/-- The divisor's top limb, shifted. -/
theorem top_shift (t:Int) (b s:Nat) (h:isBits t b) (h0:¬ t=0) (hb:b≤32) (hs:s=32 - b):2147483648≤t*2 ^ s∧(t+1)*2 ^ s≤4294967296:=by
 rcases h with ⟨h,_⟩ | ⟨h1,h2,h3⟩
 · exact absurd h h0
 · have e:(2:Int) ^ s=p2 s:=rfl
   rw [e];have hp:=p2_pos s;have a1:p2 (b - 1)*p2 s≤t*p2 s:=Int.mul_le_mul_of_nonneg_right h2 (Int.le_of_lt hp);have a2:(t+1)*p2 s≤p2 b*p2 s:=Int.mul_le_mul_of_nonneg_right (by omega) (Int.le_of_lt hp);rw [← p2_add] at a1 a2;have e1:b - 1+s=31:=by omega
   have e2:b+s=32:=by omega
   rw [e1] at a1;rw [e2] at a2;have k1:p2 31=2147483648:=by decide
   have k2:p2 32=4294967296:=by decide
   omega
/-- The divisor, shifted: its limbs but the last, which is 0. -/
theorem shifted_divisor (ys zs:List Int) (m:Nat) (c:Int) (hc:0<c) (ly:lim ys) (lz:lim zs) (hy:ys.length=m+2) (hz:zs.length=m+2+1) (hv:val zs=val ys*c) (h1:2147483648≤ys.getD (m+1) 0*c) (h2:(ys.getD (m+1) 0+1)*c≤4294967296) :
    val (zs.take (m+2))=val ys*c∧2147483648≤(zs.take (m+2)).getD (m+1) 0:=by
 have e:ys=ys.take (m+1+1):=by rw [List.take_of_length_le (by omega)]
 have ez:zs=zs.take (m+2+1):=by rw [List.take_of_length_le (by omega)]
 have v1:=val_take_succ ys (m+1) (by omega);rw [← e] at v1;have v2:=val_take_succ zs (m+2) (by omega);rw [← ez] at v2;have v3:=val_take_succ zs (m+1) (by omega);have b1:=val_bound (lim_take ly (m+1));have b3:=val_bound (lim_take lz (m+1));have l1:(ys.take (m+1)).length=m+1:=by simp;omega
 have l3:(zs.take (m+1)).length=m+1:=by simp;omega
 rw [l1] at b1;rw [l3] at b3;have bz:=lim_getD lz (m+2);have bt:=(val_bound (lim_take lz (m+2))).1;have hp:=pw_pos (m+1);have ep:pw (m+2)=4294967296*pw (m+1):=pw_succ (m+1)
 -- the whole is below pw (m + 2)
 have u1:val ys*c<pw (m+2):=by
  have a1:val ys<(ys.getD (m+1) 0+1)*pw (m+1):=by rw [Int.add_mul,Int.one_mul];omega
  have a2:val ys*c<(ys.getD (m+1) 0+1)*pw (m+1)*c:=Int.mul_lt_mul_of_pos_right a1 hc;have a3:(ys.getD (m+1) 0+1)*c*pw (m+1)≤4294967296*pw (m+1):=Int.mul_le_mul_of_nonneg_right h2 (Int.le_of_lt hp);rw [Int.mul_right_comm] at a2;omega
 have z0:zs.getD (m+2) 0=0:=by
  by_cases h:zs.getD (m+2) 0=0
  · exact h
  · have:1*pw (m+2)≤zs.getD (m+2) 0*pw (m+2):=Int.mul_le_mul_of_nonneg_right (by omega) (Int.le_of_lt (pw_pos _))
    omega
 rw [z0] at v2;have hval:val (zs.take (m+2))=val ys*c:=by omega
 refine ⟨hval,?_⟩;have eg:(zs.take (m+2)).getD (m+1) 0=zs.getD (m+1) 0:=by simp only [List.getD,List.getElem?_take];rw [if_pos (by omega)]
 rw [eg]
 -- from below
 have d1:(2147483648:Int)*pw (m+1)≤val ys*c:=by
  have a1:ys.getD (m+1) 0*pw (m+1)≤val ys:=by omega
  have a2:ys.getD (m+1) 0*pw (m+1)*c≤val ys*c:=Int.mul_le_mul_of_nonneg_right a1 (Int.le_of_lt hc);have a3:2147483648*pw (m+1)≤ys.getD (m+1) 0*c*pw (m+1):=Int.mul_le_mul_of_nonneg_right h1 (Int.le_of_lt hp);rw [Int.mul_right_comm] at a2;omega
 have v3':val (zs.take (m+2))=val (zs.take (m+1))+zs.getD (m+1) 0*pw (m+1):=v3;have d2:2147483648*pw (m+1)<(zs.getD (m+1) 0+1)*pw (m+1):=by rw [Int.add_mul,Int.one_mul];omega
 have:=Int.lt_of_mul_lt_mul_right d2 (Int.le_of_lt hp);omega
/-- Ahead of the first limb: the top of the shifted dividend is below the shifted divisor. -/
theorem long_start (xs ys vs:List Int) (n L:Nat) (c:Int) (hc:0<c) (lx:lim xs) (lv:lim vs) (cy:can ys) (hx:xs.length=L) (hy:ys.length=n) (hn:0<n) (hnL:n≤L) (hv:vs.length=L+1) (hval:val vs=val xs*c) :
    val (vs.drop (L+1 - n))<val ys*c:=by
 have h1:=val_split vs (L+1 - n) (by omega);have h2:=(val_bound (lim_take lv (L+1 - n))).1;have h3:=(val_bound lx).2;rw [hx] at h3;have h4:=can_low cy (by omega);rw [hy] at h4;have hp:=pw_pos (L+1 - n);have e:pw L=pw (L+1 - n)*pw (n - 1):=by rw [← pw_add];congr 1;omega
 have h5:val xs*c<pw L*c:=Int.mul_lt_mul_of_pos_right h3 hc;have h6:pw (n - 1)*c≤val ys*c:=Int.mul_le_mul_of_nonneg_right h4 (Int.le_of_lt hc);have h7:pw (L+1 - n)*val (vs.drop (L+1 - n))<pw (L+1 - n)*(pw (n - 1)*c):=by
  rw [← Int.mul_assoc,← e];omega
 have:=Int.lt_of_mul_lt_mul_left h7 (Int.le_of_lt hp);omega
theorem long_end (X Y V q c:Int) (hc:0<c) (h:X*c=V+q*(Y*c)):V/c=X - q*Y∧(V<Y*c→X - q*Y<Y):=by
 have e:V=(X - q*Y)*c:=by rw [Int.sub_mul,Int.mul_assoc];omega
 refine ⟨by rw [e];exact Int.mul_ediv_cancel _ (by omega),fun h1 => ?_⟩;rw [e] at h1;exact Int.lt_of_mul_lt_mul_right h1 (Int.le_of_lt hc)
end
section
open Go.RowKit
theorem Own.keep2 {base:Nat} {w w':World} {v:Value} {xs:List Int} {B:Nat} (h:Own base w v xs) (k:Kept2 w w' B none) (hne:v.ownBlock≠some B):Own base w' v xs:=by
 obtain ⟨hl,h1,h | ⟨g,cap,cur,hv,hg,hh,r⟩⟩:=h
 · exact ⟨hl,h1,Or.inl h⟩
 · refine ⟨hl,h1,Or.inr ⟨g,cap,cur,hv,hg,?_,r⟩⟩
   rw [k.block g (lt_of_block hh) (fun e=>hne (by rw [hv,e];rfl)) (fun e=>by cases e)];exact hh
theorem Box.keep2 {w w':World} {B b ty:Nat} {v:Value} (h:Box w b ty v) (k:Kept2 w w' B none) (hne:b≠B):Box w' b ty v:=by
 unfold Box;rw [k.block b (lt_of_block h) hne (fun e=>by cases e)];exact h
/-- What was kept but block g, which is new since, was kept of the earlier world. -/
theorem Kept2.new {a w w':World} {B g:Nat} (h:Kept2 a w B none) (k:Kept2 w w' g none) (hg:a.heap.size≤g):Kept2 a w' B none:=
 ⟨k.os.trans h.os,k.tape.trans h.tape,k.output.trans h.output,Nat.le_trans h.size k.size,fun i hi hB hr=>(k.block i (Nat.lt_of_lt_of_le hi h.size) (by omega) hr).trans (h.block i hi hB hr)⟩
theorem Kept2.grow {a w w':World} {B:Nat} (h:Kept2 a w B none) (k:Below w.heap.size w w'):Kept2 a w' B none:=
 ⟨k.os.trans h.os,k.tape.trans h.tape,k.output.trans h.output,Nat.le_trans h.size k.size,fun i hi hB hr=>(k.block i (Nat.lt_of_lt_of_le hi h.size)).trans (h.block i hi hB hr)⟩
theorem Kept2.setNew {a w:World} {B g:Nat} (h:Kept2 a w B none) (hg:a.heap.size≤g) (o:Nat) (u:Value):Kept2 a (w.setCell ⟨g,o,none⟩ u) B none:=
 h.new (Kept2.setCell (Kept2.refl w g none) (p:=⟨g,o,none⟩) (Or.inl rfl) u) hg
/-- What (*divider).by leaves of xs by ys, where nothing but its variable (block B) and a row r has turned; what is left lies in the row R or in a new one. -/
def Divides2 (base:Nat) (w:World) (B ty:Nat) (r R:Option Nat) (xs ys:List Int) (e:Ending) (w':World):Prop:=
 ∃ qs rs a c a2 c2,e=.returned (.slice a qs.length c)∧Own base w' (.slice a qs.length c) qs∧can qs∧can rs∧Box w' B ty (.slice a2 rs.length c2)∧Own base w' (.slice a2 rs.length c2) rs∧val xs=val qs*val ys+val rs∧val rs<val ys∧qs.length≤xs.length∧rs.length≤xs.length∧rs.length≤ys.length∧(∀ k,(Value.slice a2 rs.length c2).ownBlock=some k→some k=R∨w.heap.size≤k)∧Kept2 w w' B r
theorem by_long {base B ty m L c bc:Nat} {w:World} {a ba:Option Addr} {xs ys:List Int} (hty:ty≠92) (hxl:Hid (xs.length=L)) (hyl:Hid (ys.length=m+2)) (hbox:Box w B ty (.slice a L c)) (hown:Own base w (.slice a L c) xs) (hBb:base≤B) (hbs:base≤w.heap.size)
    (cy:can ys) (hL:m+2≤L) (hn:L≤17592186044415)
    (hb:∃ g o,ba=some ⟨g,o,none⟩∧g<w.heap.size∧∀ j,j<m+2→w.cell? ⟨g,o+j,none⟩=some (.int .u32 (ys.getD j 0))) :
    Calls Tryz.prog 168 #[.pointer (some ⟨B,0,none⟩),.slice ba (m+2) bc] w fun e w'=>Divides2 base w B ty none (Value.slice a L c).ownBlock xs ys e w':=by
 obtain ⟨i0,hi,hz0,hz1,hz2⟩:=info_parts info_u32;obtain ⟨g,o,rfl,hg,hcb⟩:=hb;obtain ⟨N,hN⟩:∃ N,N+(m+2)=L+1:=⟨L+1 - (m+2),by omega⟩;have hc:=cell_of_one hbox;have hBlt:=lt_of_block hbox;have lx:=hown.lim;have hct:=hcb (m+1) (by omega);have rt:=lim_getD cy.1 (m+1);have ht0:¬ ys.getD (m+1) 0=0:=by
  rcases cy.2 with h | h
  · have:=hyl.out;omega
  · rw [hyl.out] at h;simpa using h
 have hbits:=bitLen_is (ys.getD (m+1) 0).toNat (by omega);rw [Int.toNat_of_nonneg rt.1] at hbits;have hb32:Lib.bitLen (ys.getD (m+1) 0).toNat≤32:=by
  rcases hbits with ⟨h,_⟩ | ⟨h1,h2,h3⟩
  · exact absurd h ht0
  · by_cases hh:Lib.bitLen (ys.getD (m+1) 0).toNat≤32
    · exact hh
    · have:=p2_mono (j:=32) (k:=Lib.bitLen (ys.getD (m+1) 0).toNat - 1) (by omega)
      have k2:p2 32=4294967296:=by decide
      omega
 have hb1:1≤Lib.bitLen (ys.getD (m+1) 0).toNat:=by
  rcases hbits with ⟨h,_⟩ | ⟨h1,h2,h3⟩
  · exact absurd h ht0
  · exact h1
 have hlz:=Tryz.bits_LeadingZeros32 (ys.getD (m+1) 0) w rt.1 (by omega);have hts:=top_shift _ _ _ hbits ht0 hb32 rfl;obtain ⟨s,hs⟩:∃ s:Nat,s=32 - Lib.bitLen (ys.getD (m+1) 0).toNat:=⟨_,rfl⟩;rw [← hs] at hts;have es:(32:Int) - (Lib.bitLen (ys.getD (m+1) 0).toNat:Int)=(s:Int):=by omega
 rw [es] at hlz;have hs31:s≤31:=by omega
 clear hbits hb32 hb1 hs es ht0;generalize hT:ys.getD (m+1) 0=t at *;have HTS:Hid (2147483648≤ys.getD (m+1) 0*2 ^ s∧(ys.getD (m+1) 0+1)*2 ^ s≤4294967296):=by unfold Hid;rw [hT];exact hts
 clear hT hts;have hc0:(0:Int)<2 ^ s:=Int.pow_pos (by omega);have e1:(((m+2:Nat):Int) - 1)=((m+1:Nat):Int):=by omega
 have t1:(((m+2:Nat):Int)==1)=false:=by simp;omega
 have hup1:=shiftedUp_walk (a:=some ⟨g,o,none⟩) (ac:=bc) (n:=m+2) (w:=w) s hs31 hyl cy.1 (by omega) (fun _=>⟨g,o,rfl,hg,hcb⟩);have HCB:Hid (∀ j,j<m+2→w.cell? ⟨g,o+j,none⟩=some (.int .u32 (ys.getD j 0))):=hcb;clear hcb;go_enter Tryz.func168,Tryz.ntmps168
 go_wp2_with fail
 refine hlz.mono ?_;rintro e w' ⟨rfl,hw⟩;have hw:=hw.symm;subst hw
 go_wp2_with fail
 refine hup1.mono ?_;rintro e w1 ⟨zs1,rfl,hz1l,hz1v,hown1,hbl1⟩;have sz1:=hbl1.size;have g1lt:=hown1.lt hz1l;have hd:=shifted_divisor ys zs1 m (2 ^ s) hc0 cy.1 hown1.lim hyl.out hz1l hz1v HTS.out.1 HTS.out.2;have lb:lim (zs1.take (m+2)):=lim_take hown1.lim _;have lbl:(zs1.take (m+2)).length=m+2:=by simp;omega
 have hcell1:∀ i,i<m+2→w1.cell? ⟨w.heap.size,0+i,none⟩=some (.int .u32 ((zs1.take (m+2)).getD i 0)):=by
  intro i hi;have:=hown1.cellAt hz1l i (by omega);rw [Nat.zero_add,this];have e:(zs1.take (m+2)).getD i 0=zs1.getD i 0:=by simp only [List.getD,List.getElem?_take];rw [if_pos (by omega)]
  rw [e]
 generalize zs1.take (m+2)=bs at *;have HD:Hid (val bs=val ys*2 ^ s∧2147483648≤bs.getD (m+1) 0):=hd;have HCELL:Hid (∀ i,i<m+2→w1.cell? ⟨w.heap.size,0+i,none⟩=some (.int .u32 (bs.getD i 0))):=hcell1;have HLBL:Hid (bs.length=m+2):=lbl;clear hd hcell1 lbl hz1v hz1l hown1 hct hlz hup1;have hbox1:Box w1 B ty (.slice a L c):=by unfold Box;rw [hbl1.block B hBlt];exact hbox
 have hown1:Own base w1 (.slice a L c) xs:=hown.below hbl1 (Nat.le_refl _);have hc1:=cell_of_one hbox1;obtain ⟨_,a',c',ev,_,_,_,kx⟩:=hown1.rd;have hup2:=shiftedUp_walk (a:=a) (ac:=c) (n:=L) (w:=w1) s hs31 hxl lx (by omega) (by
  intro h0
  cases ev
  rcases kx with kx | ⟨b,off,ha,hbB,hcc⟩
  · have:=hxl.out;omega
  · exact ⟨b,off,ha,hbB,fun j hj=>hcc j (by rw [hxl.out];exact hj)⟩)
 clear kx ev
 go_wp2_with fail
 refine hup2.mono ?_;rintro e w2 ⟨vs0,rfl,hv0l,hv0v,hown2,hbl2⟩;clear hup2;have sz2:=hbl2.size;have g2lt:=hown2.lt hv0l;have hbox2:Box w2 B ty (.slice a L c):=by unfold Box;rw [hbl2.block B (by omega)];exact hbox1
 have hc2:=cell_of_one hbox2;have hf2:=free_of_one hbox2;have HV0L:Hid (vs0.length=L+1):=hv0l;have HV0V:Hid (val vs0=val xs*2 ^ s):=hv0v;have hk2:Kept2 w w2 B none:=((Kept2.refl w B none).grow hbl1).grow hbl2;have hbox3:Box (w2.setCell ⟨B,0,none⟩ (.slice (some ⟨w1.heap.size,0,none⟩) (L+1) (L+1))) B ty (.slice (some ⟨w1.heap.size,0,none⟩) (L+1) (L+1)):=one_setCell hbox2;have hc3:=cell_of_one hbox3;clear hv0l hv0v hc hc1 hbox hown hbox1 hown1
 go_wp2_with (at_make;refine wpList_make_full _ rfl _ _ 32 rfl base 92 i0 (.int .u32 0) 1 Tryz.underlying32 hi hz0 hz1 _ _ _ _ N rfl rfl ?b0 ?b1 ?b2 ?b3 ?b4 ?_)
 case b0=>omega
 case b1=>omega
 case b2=>rw [hz2];omega
 case b3=>unfold maxLen;omega
 case b4=>simp;omega
 intro w3 hown3' hgrow3;have hO3:=own_made hown3';clear hown3';have hb3:Below w2.heap.size (w2.setCell ⟨B,0,none⟩ (.slice (some ⟨w1.heap.size,0,none⟩) (L+1) (L+1))) w3:=(Below.refl _ _).grown hgrow3 (by simp) (fun k h=>by cases h);have sz3:w2.heap.size≤w3.heap.size:=by have:=hb3.size;simpa using this
 have g3lt:=hO3.lt (by simp);have hkS:Kept2 w (w2.setCell ⟨B,0,none⟩ (.slice (some ⟨w1.heap.size,0,none⟩) (L+1) (L+1))) B none:=hk2.setCell (Or.inl rfl) _;have hk3:Kept2 w w3 B none:=hkS.grow (hb3.mono (by simp));have hbox4:Box w3 B ty (.slice (some ⟨w1.heap.size,0,none⟩) (L+1) (L+1)):=by unfold Box;rw [hb3.block B (by omega)];exact hbox3
 have hown2':Own base w2 (.slice (some ⟨w1.heap.size,0,none⟩) (L+1) (L+1)) vs0:=hown2.mono (by omega);have hown4:Own base w3 (.slice (some ⟨w1.heap.size,0,none⟩) (L+1) (L+1)) vs0:=(hown2'.setCell (own_box_ne hbox2 hown2' hty) _).below hb3 (by simp);have hcell3:Hid (∀ i,i<m+2→w3.cell? ⟨w.heap.size,0+i,none⟩=some (.int .u32 (bs.getD i 0))):=by
  intro i hi;rw [← HCELL.out i hi,hb3.cell (p:=⟨w.heap.size,0+i,none⟩) (by show w.heap.size<w2.heap.size;omega)];have k1:Kept2 w2 (w2.setCell ⟨B,0,none⟩ (.slice (some ⟨w1.heap.size,0,none⟩) (L+1) (L+1))) B none:=(Kept2.refl _ _ _).setCell (Or.inl rfl) _;rw [k1.cell (show w.heap.size<w2.heap.size by omega) (by omega)];exact hbl2.cell (p:=⟨w.heap.size,0+i,none⟩) g1lt
 have hstart:=long_start xs ys vs0 (m+2) L (2 ^ s) hc0 lx hown2.lim cy hxl.out hyl.out (by omega) hL HV0L.out HV0V.out;have hbp:val bs≤pw (m+2):=by
  have:=(val_bound lb).2;rw [HLBL.out] at this;omega
 have hbp0:0<val bs:=by
  rw [HD.out.1];have h1:=can_low cy (by rw [hyl.out];omega);have h2:=pw_pos (ys.length - 1);exact Int.mul_pos (by omega) hc0
 have HBP:Hid (0<val bs∧val bs≤pw (m+2)):=⟨hbp0,hbp⟩;rw [show L+1 - (m+2)=N by omega,← HD.out.1] at hstart;have HSTART:Hid (val (vs0.drop N)<val bs):=hstart;clear hstart hbp hbp0 hgrow3 hc2 hc3 hf2 hbox2 hbox3 hkS hown2 hown2' hk2 hb3;have hc4:=cell_of_one hbox4;go_wp2
 go_loopw [9] (fun r wr=>∃ (j:Nat) (vs qs:List Int),j≤N∧r=.int .i64 ((j:Int) - 1)∧Hid (vs.length=L+1)∧Hid (qs.length=N)∧Own base wr (.slice (some ⟨w1.heap.size,0,none⟩) (L+1) (L+1)) vs∧Own base wr (.slice (some ⟨w2.heap.size,0,none⟩) N N) qs∧Box wr B ty (.slice (some ⟨w1.heap.size,0,none⟩) (L+1) (L+1))∧Kept2 w wr B none ∧
     Hid (∀ i,i<m+2→wr.cell? ⟨w.heap.size,0+i,none⟩=some (.int .u32 (bs.getD i 0)))∧Hid (val vs0=val vs+val qs*val bs)∧Hid (val (vs.drop j)<val bs)∧Hid (∀ k,k<j→qs.getD k 0=0))
  (fun r _=>(intOf r+1).toNat)
 case atStart=>exact ⟨N,vs0,List.replicate N 0,Nat.le_refl _,by go_num,HV0L,by unfold Hid;simp,hown4,hO3,hbox4,hk3,hcell3,by unfold Hid;rw [val_replicate];simp,HSTART,fun k hk=>by simp [List.getD,List.getElem?_replicate];split <;> rfl⟩
 case round=>
  obtain ⟨j,vs,qs,hjN,rfl,hvl,hql,hownv,hownq,hbox5,hk5,hcell5,hval5,hlt5,hz5⟩:=hrel;have hc5:=cell_of_one hbox5;have hf5:=free_of_one hbox5;have hv5lt:=hownv.lt hvl.out;have hq5lt:=hownq.lt hql.out;clear hc4
  cases j with
  | zero=>
   have hle:=long_end (val xs) (val ys) (val vs) (val qs) (2 ^ s) hc0 (by rw [← HV0V.out,← HD.out.1];exact hval5.out);have hlt6:val vs<val ys*2 ^ s:=by rw [← HD.out.1];exact hlt5.out
   have HLE:Hid (val vs/2 ^ s=val xs - val qs*val ys∧val xs - val qs*val ys<val ys):=⟨hle.1,hle.2 hlt6⟩;clear hle hlt6
   go_wp2_with fail
   refine (shiftDown_walk s hs31 hvl hownv (by omega)).mono ?_;rintro e w6 ⟨rfl,zs,hzl,hzv,hownz,hk6⟩;rw [HLE.out.1] at hzv;have HZV:Hid (val zs=val xs - val qs*val ys):=hzv;have HZL:Hid (zs.length=L+1):=hzl;clear hzv hzl;have hbox6:=hbox5.keep2 hk6 (show B≠w1.heap.size by omega);have hownq6:Own base w6 (.slice (some ⟨w2.heap.size,0,none⟩) N N) qs:=hownq.keep2 hk6 (by intro e;have:w2.heap.size=w1.heap.size:=Option.some.inj e;omega);have hc6:=cell_of_one hbox6
   go_wp2_with fail
   refine (trimM_any hbox6 hownz.rd).mono ?_;rintro e w7 ⟨rfl,rfl⟩;have hM:=hownz.meant;have hv5:vtake (.slice (some ⟨w1.heap.size,0,none⟩) (L+1) (L+1)) (tl zs zs.length)=.slice (some ⟨w1.heap.size,0,none⟩) (tr zs).length (L+1):=by rw [tr_length];rfl
   rw [hv5] at hM ⊢;clear hv5;have hbox7:Box (w6.setCell ⟨B,0,none⟩ (.slice (some ⟨w1.heap.size,0,none⟩) (tr zs).length (L+1))) B ty (.slice (some ⟨w1.heap.size,0,none⟩) (tr zs).length (L+1)):=one_setCell hbox6;have hown7:=hM.setCell (a:=⟨B,0,none⟩) (own_box_ne hbox6 hM hty) (.slice (some ⟨w1.heap.size,0,none⟩) (tr zs).length (L+1));have hownq7:=hownq6.setCell (a:=⟨B,0,none⟩) (own_box_ne hbox6 hownq6 hty) (.slice (some ⟨w1.heap.size,0,none⟩) (tr zs).length (L+1));have hk7:Kept2 w (w6.setCell ⟨B,0,none⟩ (.slice (some ⟨w1.heap.size,0,none⟩) (tr zs).length (L+1))) B none:=(hk5.new hk6 (by omega)).setCell (Or.inl rfl) _
   go_wp2_with fail
   refine (meant_rd hownq7.rd).mono ?_;rintro e w8 ⟨rfl,rfl⟩;have hMq:=hownq7.meant;have hvq:vtake (.slice (some ⟨w2.heap.size,0,none⟩) N N) (tl qs qs.length)=.slice (some ⟨w2.heap.size,0,none⟩) (tr qs).length N:=by rw [tr_length];rfl
   rw [hvq] at hMq ⊢;clear hvq;go_wp2
   go_ret
   have cz:=tr_can hownz.lim;have hvz:val (tr zs)=val xs - val qs*val ys:=by rw [val_tr];exact HZV.out
   have hzy:(tr zs).length≤ys.length:=can_len_le2 cy cz (by rw [hvz];have:=HLE.out.2;omega);have hxL:=hxl.out;have hyL:=hyl.out;have hqL:=tr_length_le qs;have hqL2:=hql.out;refine ⟨tr qs,tr zs,_,_,_,_,rfl,hMq,tr_can hownq.lim,cz,hbox7,hown7,?_,?_,by omega,by omega,hzy,(fun k hk=>Or.inr (by have:w1.heap.size=k:=Option.some.inj hk;omega)),hk7⟩
   · rw [hvz,val_tr];omega
   · rw [hvz];exact HLE.out.2
  | succ i=>
   have ej:((i+1:Nat):Int) - 1=(i:Int):=by omega
   rw [ej];clear ej;obtain ⟨A,U,C,rfl,hA,hU⟩:=win_split vs i (m+2) (L+1) hvl.out (by omega);have hwin:Win base w1.heap.size i (m+2) (L+1) (L+1) w.heap.size 0 wr A U C bs:=⟨hA,hU,hvl.out,hownv,by omega,by omega,lb,HLBL.out,hcell5.out⟩;have htopw:=win_top A U C i (m+2) (val bs) hA hU hownv.lim hlt5.out HBP.out.2;have HC:Hid (val C=0):=htopw.1;have hql1:=quotientLimb_any (L+1 - i) (m+2+1) hwin (by omega) HD.out.2 htopw.2;clear htopw
   go_wp2_with fail
   rw [show i+(m+2)+1 - i=m+2+1 by omega];refine hql1.mono ?_;rintro e w6 ⟨U',rfl,hqr,hvU,hwin6,hk6⟩;clear hql1;have hq0:=hz5.out i (by omega);have hnext:=long_next A U U' C i (val bs) (val vs0) qs hA (by rw [hwin6.lU,hU]) HC.out HBP.out.1 hvU (by rw [hql.out];omega) hq0 hval5.out;have HNEXT:=hide hnext;generalize val U/val bs=Q at *;clear hnext;have hownq6:Own base w6 (.slice (some ⟨w2.heap.size,0,none⟩) N N) qs:=hownq.keep2 hk6 (by intro e;have:w2.heap.size=w1.heap.size:=Option.some.inj e;omega);have hbox6:Box w6 B ty (.slice (some ⟨w1.heap.size,0,none⟩) (L+1) (L+1)):=hbox5.keep2 hk6 (by omega);have hk6':Kept2 w w6 B none:=hk5.new hk6 (by omega);have hcq:=hownq6.cellAt hql.out i (by omega);have hfq:=hownq6.frozenAt hql.out i;have hS:=hownq6.stored hql.out i Q hqr;have sz6:=hk6.size;go_wp2
   go_roundw
   case rel=>exact ⟨i,A++U'++C,qs.set i Q,by omega,by go_num,hwin6.lL,(by unfold Hid;rw [List.length_set];exact hql.out),hwin6.own.setCell (by intro e;have:w1.heap.size=w2.heap.size:=Option.some.inj e;omega) _,hS,box_set hbox6 (by omega) _ _,hk6'.setNew (by omega) _ _,
    (fun k hk=>((Kept2.setCell (Kept2.refl w6 w2.heap.size none) (p:=⟨w2.heap.size,i,none⟩) (Or.inl rfl) _).cell (by omega) (by omega) _).trans (hwin6.cell k hk)),HNEXT.out.1,HNEXT.out.2,(fun k hk=>by rw [getD_set,if_neg (by omega)];exact hz5.out k (by omega))⟩
   case measure=>simp [intOf]
end
end Go.Proofs.YtheaeggecpfcbaaGreat
