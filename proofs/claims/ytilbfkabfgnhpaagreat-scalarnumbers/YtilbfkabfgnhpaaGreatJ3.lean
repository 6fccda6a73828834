/- (*divider).by at whatever divisor but 0; nat.DivMod at all. nat.word. -/
import Derived.Test.YtilbfkabfgnhpaaGreatJ2
import Derived.Deep.RegionHeld3
import Derived.Handy
set_option maxRecDepth 100000
set_option maxHeartbeats 16000000
set_option linter.unusedVariables false
set_option linter.unusedSimpArgs false
namespace Go.Proofs.YtilbfkabfgnhpaaGreat
open Go.RowKit
theorem Kept2.weak {w w':World} {B:Nat} (h:Kept2 w w' B none) (r:Option Nat):Kept2 w w' B r:=⟨h.os,h.tape,h.output,h.size,fun k hk hB _=>h.block k hk hB (fun e=>by cases e)⟩
theorem Kept2.grow' {a w w':World} {B:Nat} {r:Option Nat} (h:Kept2 a w B r) (k:Below w.heap.size w w'):Kept2 a w' B r:=
 ⟨k.os.trans h.os,k.tape.trans h.tape,k.output.trans h.output,Nat.le_trans h.size k.size,fun i hi hB hr=>(k.block i (Nat.lt_of_lt_of_le hi h.size)).trans (h.block i hi hB hr)⟩
theorem by_short2 {base B ty c:Nat} {w:World} {a:Option Addr} {xs ys:List Int} (m bc:Nat) (ba:Option Addr) (hbox:Box w B ty (.slice a xs.length c)) (hown:Own base w (.slice a xs.length c) xs) (cx:can xs) (cy:can ys) (hy:ys.length=m) (hlt:xs.length<m) (hn:xs.length≤17592186044415) (hm:m≤17592186044415) :
    Calls Tryz.prog 159 #[.pointer (some ⟨B,0,none⟩),.slice ba m bc] w fun e w'=>Divides2 base w B ty none (Value.slice a xs.length c).ownBlock xs ys e w':=by
 have hc:=cell_of_one hbox;have HY:Hid (ys.length=m):=hy;clear hy;go_enter Tryz.func159,Tryz.ntmps159;go_wp2
 go_ret
 exact ⟨[],xs,none,0,a,c,rfl,⟨lim_nil,World.ownsRow_nil _ _ _ _⟩,can_nil,cx,hbox,hown,by simp [val],can_len_lt cx cy (by rw [HY.out];exact hlt),Nat.zero_le _,Nat.le_refl _,by rw [HY.out];omega,(fun k hk=>Or.inl hk.symm),Kept2.refl _ _ _⟩
theorem by_one2 {base B ty c g o:Nat} {w:World} {a:Option Addr} {xs:List Int} (bc:Nat) (d:Int) (hty:ty≠100) (hd0:0<d) (hd1:d<4294967296) (hbox:Box w B ty (.slice a xs.length c)) (hown:Own base w (.slice a xs.length c) xs) (hBb:base≤B) (hbs:base≤w.heap.size) (hx1:1≤xs.length) (hcell:w.cell? ⟨g,o,none⟩=some (.int .u32 d)) (hn:xs.length≤17592186044415) :
    Calls Tryz.prog 159 #[.pointer (some ⟨B,0,none⟩),.slice (some ⟨g,o,none⟩) 1 bc] w fun e w'=>Divides2 base w B ty (Value.slice a xs.length c).ownBlock (Value.slice a xs.length c).ownBlock xs [d] e w':=by
 have hbox0:=hbox;have hown0:=hown;have hc:=cell_of_one hbox;have hsz:=lt_of_block hbox;have hx1b:decide ((xs.length:Int)<1)=false:=by simp;omega
 have r0:=Int.emod_nonneg (val xs) (show d≠0 by omega);have r1:=Int.emod_lt_of_pos (val xs) hd0;have hdm:d*(val xs/d)+val xs % d=val xs:=Int.mul_ediv_add_emod (val xs) d;generalize hR:val xs % d=r at *;generalize hQ:val xs/d=q at *;have HR:Hid (val xs % d=r):=hR;have HQ:Hid (val xs/d=q):=hQ;have HD:Hid (d*q+r=val xs):=hdm;clear hR hQ hdm;go_enter Tryz.func159,Tryz.ntmps159;go_wp2
 go_region_with (go_at_call 183;refine (divLimb_walk a c xs.length d hd0 hd1 hty rfl (by first | exact hbox0 | exact hbox0.drew) (by first | exact hown0 | exact hown0.drew) hn).mono ?_;rintro e w1 ⟨rfl,zs,cz,vz,lz,hbox1,hown1,hk1⟩;rw [HR.out])
 have hc1:=cell_of_one hbox1;have hf1:=free_of_one hbox1;have hlt1:=lt_of_block hbox1;have hs1:w.heap.size≤w1.heap.size:=hk1.size;rw [HQ.out] at vz;have HZ:Hid (val zs=q):=vz;clear vz
 go_wp2_with fail
 refine (beginAt_any r r0 (by omega) _).mono ?_;intro e w2 hm2;obtain ⟨a2,c2,rfl,hown2,hbl2⟩:=hm2;have hO:=of_limb r r0 (by omega);generalize tr [r % 4294967296,r/4294967296]=rs at *;have HO:Hid (val rs=r∧can rs∧rs.length≤1):=hO;clear hO;have hbox2:Box w2 B ty (.slice a zs.length c):=by unfold Box;rw [hbl2.block B hlt1];exact hbox1
 have hown1':Own base w2 (.slice a zs.length c) zs:=hown1.below hbl2 (Nat.le_refl _);have hc2:=cell_of_one hbox2;have hf2:=free_of_one hbox2;have hsz2:=hbl2.size;clear hc1 hf1 hc;go_wp2
 go_ret
 have hown2':=hown2.mono (base':=base) (by omega);have hk1':Kept2 w w1 B (Value.slice a xs.length c).ownBlock:=⟨hk1.os,hk1.tape,hk1.output,hk1.size,hk1.block⟩;refine ⟨zs,rs,a,c,a2,c2,rfl,hown1'.setCell (own_box_ne hbox2 hown1' hty) _,cz,HO.out.2.1,one_setCell hbox2,hown2'.setCell (own_box_ne hbox2 hown2' hty) _,?_,?_,lz,by have:=HO.out.2.2;omega,HO.out.2.2,(fun k hk=>Or.inr (by have:=(hown2.2.lt k hk).1;omega)),(hk1'.grow' hbl2).setCell (Or.inl rfl) _⟩
 · rw [HZ.out,HO.out.1];simp only [val];rw [← HD.out,Int.mul_comm q];simp
 · rw [HO.out.1];simp only [val];omega
/-- (*divider).by at whatever divisor but 0. -/
theorem by_any2 {base B ty c Br:Nat} {w:World} {a:Option Addr} {bv:Value} {xs ys:List Int} (hty:ty≠100) (hbox:Box w B ty (.slice a xs.length c)) (hown:Own base w (.slice a xs.length c) xs) (hBb:base≤B) (hbs:base≤w.heap.size) (cx:can xs) (cy:can ys) (hy0:¬ ys.length=0) (hn:xs.length≤17592186044415) (hm:ys.length≤17592186044415) (hb:Rd Br w bv ys) (hBr:Br≤w.heap.size) :
    Calls Tryz.prog 159 #[.pointer (some ⟨B,0,none⟩),bv] w fun e w'=>Divides2 base w B ty (Value.slice a xs.length c).ownBlock (Value.slice a xs.length c).ownBlock xs ys e w':=by
 have weak:∀ e w',Divides2 base w B ty none (Value.slice a xs.length c).ownBlock xs ys e w'→Divides2 base w B ty (Value.slice a xs.length c).ownBlock (Value.slice a xs.length c).ownBlock xs ys e w':=by
  rintro e w' ⟨qs,rs,a1,c1,a2,c2,h1,h2,h3,h4,h5,h6,h7,h8,h9,h10,h11,h13,h12⟩;exact ⟨qs,rs,a1,c1,a2,c2,h1,h2,h3,h4,h5,h6,h7,h8,h9,h10,h11,h13,h12.weak _⟩
 obtain ⟨_,ba,bc,rfl,_,_,_,kb⟩:=hb;rcases kb with kb | ⟨g,o,rfl,hg,hcb⟩
 · exact absurd kb hy0
 by_cases hlt:xs.length<ys.length
 · exact (by_short2 ys.length bc _ hbox hown cx cy rfl hlt (by omega) (by omega)).mono weak
 · by_cases h1:ys.length=1
   · match ys,h1 with
     | [d],_=>
      have hd0:=cy.1 d (by simp);have hd1:d≠0:=by
       rcases cy.2 with h | h
       · simp at h
       · simpa using h
      exact by_one2 bc d hty (by omega) hd0.2 hbox hown hBb hbs (by have h:¬ xs.length<1:=hlt;omega) (hcb 0 (by simp)) (by omega)
   · obtain ⟨m,hm2⟩:∃ m,ys.length=m+2:=⟨ys.length - 2,by omega⟩
     rw [hm2] at hcb ⊢;exact (by_long hty rfl hm2 hbox hown hBb hbs cy (by omega) hn ⟨g,o,rfl,by omega,hcb⟩).mono weak
theorem byOK_any (ys:List Int) (cy:can ys) (hy:¬ ys.length=0) (hm:ys.length≤17592186044415):ByOK ys:=by
 intro base B ty Br w bv xs hty hs cx hn hb hBr;obtain ⟨a,c,hbox,hown,hBb,hbs⟩:=hs;refine (by_any2 hty hbox hown hBb hbs cx cy hy hn hm hb (by omega)).mono ?_;rintro e w' ⟨qs,rs,a1,c1,a2,c2,h1,h2,h3,h4,h5,h6,h7,h8,h9,h10,h11,h13,h12⟩;exact ⟨qs,rs,a1,c1,h1,h2,h3,h4,⟨a2,c2,h5,h6,hBb,by have:=h12.size;omega⟩,h7,h8,h9,h10,h12.below hBb hbs (fun k hk=>(hown.2.lt k hk).1)⟩
/-- nat.DivMod where the divisor is not 0. -/
theorem divMod_any {B1 B2:Nat} {w:World} {v1 v2:Value} {xs ys:List Int} (h1:Rd B1 w v1 xs) (hB1:B1≤w.heap.size) (h2:Rd B2 w v2 ys) (hB2:B2≤w.heap.size) (hy:¬ val ys=0) (hn:xs.length≤17592186044415) (hm:ys.length≤17592186044415) :
    Calls Tryz.prog 153 #[v1,v2] w fun e w'=>DivMods w xs ys e w':=
 divMod_pos h1 hB1 h2 hB2 hy (byOK_any _ (tr_can h2.lim) (by rw [can_zero (tr_can h2.lim),val_tr];exact hy) (by have:=tr_length_le ys;omega)) hn hm
/-- nat.DivMod by 0. -/
theorem divMod_zero {B2:Nat} {w:World} {v1 v2:Value} {ys:List Int} (h2:Rd B2 w v2 ys) (hy:val ys=0) :
    Calls Tryz.prog 153 #[v1,v2] w fun e w'=>e=.returned (.tuple #[.slice none 0 0,.slice none 0 0,.bool false])∧w'=w:=by
 have hm2:=meant_rd h2;have ct:=tr_can h2.lim;have hl0:(tr ys).length=0:=by rw [can_zero ct,val_tr];exact hy
 rw [← tr_length,hl0] at hm2;have hsh:∃ a c,vtake v2 0=.slice a 0 c:=by
  obtain ⟨_,a,c,rfl,_⟩:=h2;exact ⟨a,c,rfl⟩
 obtain ⟨ba,bc,hv⟩:=hsh;rw [hv] at hm2;clear hv h2 hl0;go_enter Tryz.func153,Tryz.ntmps153
 go_wp2_with fail
 refine (hm2).mono ?_;rintro e w' ⟨rfl,rfl⟩;go_wp2
 go_ret3
 exact ⟨rfl,rfl⟩
theorem wor_zero_left (x:Int) (h:0≤x∧x<18446744073709551616):bits .or .u64 0 x=x:=by
 obtain ⟨a,rfl⟩:=Int.eq_ofNat_of_zero_le h.1;have:=bits_or_u64_nat 0 a (by omega) (by omega);rw [Nat.zero_or] at this;exact this
theorem wor_add_right (q v:Int) (hq:0≤q∧q<4294967296) (hv:0≤v∧v<4294967296):bits .or .u64 v (q*4294967296)=v+q*4294967296:=by
 obtain ⟨a,rfl⟩:=Int.eq_ofNat_of_zero_le hq.1;obtain ⟨b,rfl⟩:=Int.eq_ofNat_of_zero_le hv.1;have e:((a:Int)*4294967296)=((a*4294967296:Nat):Int):=by omega
 rw [e,bits_or_u64_nat _ _ (by omega) (by omega)];have h:b ||| a*4294967296=a*4294967296+b:=by
  have:=Nat.two_pow_add_eq_or_of_lt (i:=32) (b:=b) (by omega) a;rw [Nat.mul_comm,Nat.or_comm];exact this.symm
 rw [h];omega
theorem wd_two (b o c:Nat) (x y:Int) (w:World) (hx:0≤x∧x<4294967296) (hy:0≤y∧y<4294967296) (k1:w.cell? ⟨b,o,none⟩=some (.int .u32 x)) (k2:w.cell? ⟨b,o+1,none⟩=some (.int .u32 y)) :
    Calls Tryz.prog 161 #[.slice (some ⟨b,o,none⟩) 2 c] w fun e w'=>e=.returned (.int .u64 (x+y*4294967296))∧w=w':=by
 have e1:=wor_zero_left x (by omega);have e2:=wor_add_right y x hy hx;go_enter Tryz.func161,Tryz.ntmps161;go_wp2
 refine wp_loop_rounds 3 ?_;rw [rounds_succ];go_wp2
 rw [rounds_succ];go_wp2
 rw [rounds_succ];go_wp2
 go_ret
 exact ⟨rfl,rfl⟩
theorem wd_one (b o c:Nat) (x:Int) (w:World) (hx:0≤x∧x<4294967296) (k1:w.cell? ⟨b,o,none⟩=some (.int .u32 x)) :
    Calls Tryz.prog 161 #[.slice (some ⟨b,o,none⟩) 1 c] w fun e w'=>e=.returned (.int .u64 x)∧w=w':=by
 have e1:=wor_zero_left x (by omega);go_enter Tryz.func161,Tryz.ntmps161;go_wp2
 refine wp_loop_rounds 2 ?_;rw [rounds_succ];go_wp2
 rw [rounds_succ];go_wp2
 go_ret
 exact ⟨rfl,rfl⟩
theorem wd_zero (a:Option Addr) (c:Nat) (w:World) :
    Calls Tryz.prog 161 #[.slice a 0 c] w fun e w'=>e=.returned (.int .u64 0)∧w=w':=by
 go_enter Tryz.func161,Tryz.ntmps161;go_wp2
 refine wp_loop_rounds 1 ?_;rw [rounds_succ];go_wp2
 go_ret
 exact ⟨rfl,rfl⟩
/-- nat.word of at most two limbs: the number. -/
theorem wd_rd {B:Nat} {w:World} {v:Value} {xs:List Int} (h:Rd B w v xs) (h2:xs.length≤2) :
    Calls Tryz.prog 161 #[v] w fun e w'=>e=.returned (.int .u64 (val xs))∧w=w':=by
 obtain ⟨hl,a,c,rfl,_,_,_,r⟩:=h
 match xs,h2 with
 | [],_=>exact wd_zero a c w
 | [x],_=>
  rcases r with r | ⟨b,o,rfl,_,k⟩
  · simp at r
  · have e:val [x]=x:=by simp [val]
    rw [e];exact wd_one b o c x w (hl x (by simp)) (k 0 (by simp))
 | [x,y],_=>
  rcases r with r | ⟨b,o,rfl,_,k⟩
  · simp at r
  · have e:val [x,y]=x+y*4294967296:=by simp [val];rw [Int.mul_comm]
    rw [e];exact wd_two b o c x y w (hl x (by simp)) (hl y (by simp)) (k 0 (by simp)) (k 1 (by simp))
/-- The greatest common divisor of numbers from 0 on. -/
def gI (a b:Int):Int:=((Nat.gcd a.toNat b.toNat:Nat):Int)
theorem gI_zero (x:Int) (h:0≤x):gI x 0=x:=by unfold gI;simp;omega
theorem gI_comm (x y:Int):gI x y=gI y x:=by unfold gI;rw [Nat.gcd_comm]
theorem gI_nonneg (x y:Int):0≤gI x y:=by unfold gI;omega
theorem gI_step (x y:Int) (hx:0≤x) (hy:0≤y):gI x y=gI y (x % y):=by
 obtain ⟨a,rfl⟩:=Int.eq_ofNat_of_zero_le hx;obtain ⟨b,rfl⟩:=Int.eq_ofNat_of_zero_le hy;unfold gI;have e:((a:Int) % (b:Int))=((a % b:Nat):Int):=by simp
 rw [e];simp only [Int.toNat_natCast];rw [Nat.gcd_comm a b,Nat.gcd_rec b a,Nat.gcd_comm]
theorem gI_of (x y q r:Int) (hx:0≤x) (hy:0≤y) (h:x=q*y+r) (h0:0≤r) (h1:r<y):gI x y=gI y r:=by
 rw [gI_step x y hx hy];have:x % y=r:=by rw [h,Int.add_comm,Int.add_mul_emod_self_right,Int.emod_eq_of_lt h0 h1]
 rw [this]
theorem gI_le (x y:Int) (hx:0≤x) (hy:0≤y):gI x y≤x+y:=by
 unfold gI;by_cases h:x.toNat=0
 · rw [h,Nat.gcd_zero_left];omega
 · have:=Nat.gcd_le_left y.toNat (Nat.pos_of_ne_zero h);omega
theorem wordGcd_any {w:World} (a b:Int) (ha:0≤a∧a<18446744073709551616) (hb:0≤b∧b<18446744073709551616) :
    Calls Tryz.prog 160 #[.int .u64 a,.int .u64 b] w fun e w'=>e=.returned (.int .u64 (gI a b))∧∃ k,w'=w.drewN k:=by
 go_enter Tryz.func160,Tryz.ntmps160;go_wp2
 go_loopw [0,1] (fun r s wr=>∃ x y:Int,r=.int .u64 x∧s=.int .u64 y∧0≤x∧x<18446744073709551616∧0≤y∧y<18446744073709551616∧Hid (gI x y=gI a b)∧∃ k,wr=w.drewN k)
  (fun _ s _=>(intOf s).toNat)
 case atStart=>exact ⟨a,b,rfl,rfl,ha.1,ha.2,hb.1,hb.2,rfl,0,rfl⟩
 case round=>
  obtain ⟨x,y,rfl,rfl,hx0,hx1,hy0,hy1,hg,k,rfl⟩:=hrel;by_cases hz:0<y
  · have hyb:(y==0)=false:=by simp;omega
    have m0:0≤x % y:=Int.emod_nonneg _ (by omega);have m1:x % y<y:=Int.emod_lt_of_pos _ hz;go_wp2
    go_quiet (fail)
    go_wp2
    go_roundw
    case rel=>exact ⟨y,x % y,rfl,rfl,hy0,hy1,m0,by omega,by unfold Hid;rw [← gI_step x y hx0 hy0];exact hg.out,_,World.drewN_drewN _ _ _⟩
    case measure=>simp [intOf];omega
  · obtain rfl:y=0:=by omega
    have hgx:=hg.out;rw [gI_zero x hx0] at hgx;have HGX:Hid (x=gI a b):=hgx;clear hgx;go_wp2
    go_ret
    exact ⟨ret_int HGX.out,k,rfl⟩
theorem of_word (r:Int) (h0:0≤r) (h1:r<18446744073709551616):val (tr [r % 4294967296,r/4294967296])=r∧can (tr [r % 4294967296,r/4294967296])∧(tr [r % 4294967296,r/4294967296]).length≤2:=by
 have hl:lim [r % 4294967296,r/4294967296]:=by
  intro x hx;simp at hx;omega
 refine ⟨by rw [val_tr];simp only [val];omega,tr_can hl,?_⟩;have:=tr_length_le [r % 4294967296,r/4294967296];simpa using this
theorem two_limbs {xs:List Int} (h:lim xs) (hl:xs.length≤2):0≤val xs∧val xs<18446744073709551616:=by
 have h1:=val_bound h;have h2:=pw_mono hl;have e:pw 2=18446744073709551616:=by decide
 omega
/-- Two rows of the call's own are not the same. -/
def Apart (u v:Value):Prop:=∀ k,u.ownBlock=some k→v.ownBlock≠some k
theorem with_any {base B K:Nat} {w:World} {a ba:Option Addr} {c bc:Nat} {xs ys:List Int} (hbox:Box w B 120 (.slice a xs.length c)) (hown:Own base w (.slice a xs.length c) xs) (cx:can xs) (hownb:Own base w (.slice ba ys.length bc) ys) (cy:can ys) (hap:Apart (.slice a xs.length c) (.slice ba ys.length bc)) (hBb:base≤B) (hbs:base≤w.heap.size) (hxK:xs.length≤K) (hyK:ys.length≤K) (hK:K≤17592186044414) :
    Calls Tryz.prog 124 #[.pointer (some ⟨B,0,none⟩),.slice ba ys.length bc] w fun e w'=>e=.returned (.tuple #[])∧∃ zs a' c',can zs∧val zs=gI (val xs) (val ys)∧zs.length≤K+2∧Box w' B 120 (.slice a' zs.length c')∧Own base w' (.slice a' zs.length c') zs∧Below base w w':=by
 go_enter Tryz.func124,Tryz.ntmps124;go_wp2
 go_loopg [1] (val ys).toNat (fun gk s wr=>∃ (us vs:List Int) (a1 a2:Option Addr) (c1 c2:Nat),Hid (gk=(val vs).toNat)∧s=.slice a2 vs.length c2∧can us∧can vs∧us.length≤K∧vs.length≤K∧Box wr B 120 (.slice a1 us.length c1)∧Own base wr (.slice a1 us.length c1) us∧Own base wr (.slice a2 vs.length c2) vs∧Apart (.slice a1 us.length c1) (.slice a2 vs.length c2)∧Hid (gI (val us) (val vs)=gI (val xs) (val ys))∧Below base w wr)
 case atStart=>exact ⟨xs,ys,a,ba,c,bc,rfl,rfl,cx,cy,hxK,hyK,hbox,hown,hownb,hap,rfl,Below.refl _ _⟩
 case round=>
  obtain ⟨us,vs,a1,a2,c1,c2,hgk,rfl,cu,cv,huK,hvK,hboxr,hownu,hownv,hapr,hg,hbl⟩:=hrel;have hcr:=cell_of_one hboxr;have hfr:=free_of_one hboxr;have hsz:=hbl.size;have hneB:=own_box_ne hboxr hownv (by decide);have hu0:=(val_bound cu.1).1;have hv0:=(val_bound cv.1).1;by_cases hlen:2<vs.length
  · go_wp2_with fail
    refine (by_any2 (by decide) hboxr hownu hBb (by omega) cu cv (by omega) (by omega) (by omega) hownv.rd (Nat.le_refl _)).mono ?_;rintro e w1 ⟨qs,rs,a3,c3,a4,c4,rfl,hq,cq,cr,hbox1,hown1,hval,hlt,_,hrl,hrv,hrow,hk1⟩;have hownv1:Own base w1 (.slice a2 vs.length c2) vs:=hownv.kept2 hk1 hneB (fun k hk e=>hapr k e.symm hk);have hap1:Apart (.slice a2 vs.length c2) (.slice a4 rs.length c4):=by
     intro k hk hk2;rcases hrow k hk2 with e | e
     · exact hapr k e.symm hk
     · have:=(hownv.2.lt k hk).2;omega
    have hr0:=(val_bound cr.1).1;have hg1:=gI_of _ _ _ _ hu0 hv0 hval hr0 hlt;have HG1:Hid (gI (val vs) (val rs)=gI (val xs) (val ys)):=by unfold Hid;rw [← hg1];exact hg.out
    have HLT:Hid (val rs<val vs∧0≤val rs):=⟨hlt,hr0⟩;have hc1:=cell_of_one hbox1;have hf1:=free_of_one hbox1;have hbl1:Below base w w1:=hbl.trans (hk1.below hBb (by omega) (fun k hk=>(hownu.2.lt k hk).1));clear hq hval hlt hg1 hcr hfr hu0 hv0 hr0;go_wp2
    go_roundg ((val rs).toNat)
    case rel=>exact ⟨vs,rs,a2,a4,c2,c4,rfl,rfl,cv,cr,hvK,by omega,one_setCell hbox1,hownv1.setCell (own_box_ne hbox1 hownv1 (by decide)) _,hown1.setCell (own_box_ne hbox1 hown1 (by decide)) _,hap1,HG1,hbl1.setCell hBb _⟩
    case measure=>have h1:=HLT.out;have h2:=hgk.out;omega
  · by_cases h0:vs.length=0
    · have hvz:=(can_zero cv).1 h0
      have hg1:=hg.out;rw [hvz,gI_zero _ hu0] at hg1;have HG1:Hid (val us=gI (val xs) (val ys)):=hg1;have h0':((vs.length:Nat):Int)=0:=by omega
      clear hvz hg1;go_wp2
      go_end0
      exact ⟨rfl,us,a1,c1,cu,HG1.out,by omega,hboxr,hownu,hbl⟩
    · have h0':¬ ((vs.length:Nat):Int)≤0:=by omega
      go_wp2_with fail
      refine (by_any2 (by decide) hboxr hownu hBb (by omega) cu cv (by omega) (by omega) (by omega) hownv.rd (Nat.le_refl _)).mono ?_;rintro e w1 ⟨qs,rs,a3,c3,a4,c4,rfl,hq,cq,cr,hbox1,hown1,hval,hlt,_,hrl,hrv,hrow,hk1⟩;have hownv1:Own base w1 (.slice a2 vs.length c2) vs:=hownv.kept2 hk1 hneB (fun k hk e=>hapr k e.symm hk);have hr0:=(val_bound cr.1).1;have hg1:=gI_of _ _ _ _ hu0 hv0 hval hr0 hlt;have HG1:Hid (gI (val vs) (val rs)=gI (val xs) (val ys)):=by unfold Hid;rw [← hg1];exact hg.out
      have hc1:=cell_of_one hbox1;have hf1:=free_of_one hbox1;have hbl1:Below base w w1:=hbl.trans (hk1.below hBb (by omega) (fun k hk=>(hownu.2.lt k hk).1));have b1:=two_limbs cv.1 (by omega);have b2:=two_limbs cr.1 (by omega);have rv:=hownv1.rd;have rr:=hown1.rd;have hgle:=gI_le _ _ b1.1 b2.1;have hgn:=gI_nonneg (val vs) (val rs);have hglt:gI (val vs) (val rs)<18446744073709551616:=by
       have h1:gI (val vs) (val rs)≤val vs:=by
        unfold gI;have hp:0<(val vs).toNat:=by
         have:=can_zero cv;have:¬ val vs=0:=fun e=>h0 (this.2 e);omega
        have:=Nat.gcd_le_left (val rs).toNat hp;omega
       omega
      have lt1:=lt_of_block hbox1;clear hq hval hlt hg1 hcr hfr hu0 hv0 hr0 hgle;generalize hVV:val vs=V at *;generalize hRR:val rs=R at *;go_wp2
      have rvd:Rd w1.heap.size w1.drew (.slice a2 vs.length c2) vs:=rv;have rrd:Rd w1.heap.size w1.drew (.slice a4 rs.length c4) rs:=rr;clear hown hbox hownb hap hrow hk1 hboxr hownu hownv hapr hneB rv rr
      go_region_with
       (first
       | (go_at_call_of 161 a2;refine (wd_rd (B:=w1.heap.size) (xs:=vs) (by exact rvd) (by omega)).mono ?_;rintro e wx ⟨rfl,rfl⟩;rw [hVV])
       | (go_at_call_of 161 a4;refine (wd_rd (B:=w1.heap.size) (xs:=rs) (by exact rrd) (by omega)).mono ?_;rintro e wx ⟨rfl,rfl⟩;rw [hRR])
       | (go_at_call 160;refine (wordGcd_any V R b1 b2).mono ?_;rintro e wx ⟨rfl,kx,rfl⟩)
       | (go_at_call 156;refine (beginAt_any (gI V R) hgn hglt _).mono ?_;rintro e w2 ⟨a5,c5,rfl,hown5,hbl5⟩;have hO:=of_word (gI V R) hgn hglt;generalize tr [gI V R % 4294967296,gI V R/4294967296]=gs at *;have HO:=hide hO;clear hO;have hf5:w2.frozen? ⟨B,0,none⟩=false:=(hbl5.frozen (p:=⟨B,0,none⟩) (show B<_ from lt1)).trans hf1;have hc5:w2.cell? ⟨B,0,none⟩=some (.slice a4 rs.length c4):=(hbl5.cell (p:=⟨B,0,none⟩) (show B<_ from lt1)).trans hc1))
      all_goals
       have hbs1:base≤w1.heap.size:=by omega
       have hb5:Below base w1 w2:=⟨hbl5.os,hbl5.tape,hbl5.output,hbl5.size,fun k hk=>hbl5.block k (Nat.lt_of_lt_of_le hk (show base≤w1.heap.size from hbs1))⟩;have hbox5:Box w2 B 120 (.slice a4 rs.length c4):=by unfold Box;rw [hbl5.block B (show B<w1.heap.size from lt1)];exact hbox1
       have hown6:Own base w2 (.slice a5 gs.length c5) gs:=hown5.mono (show base≤w1.heap.size from hbs1)
       go_end0
       exact ⟨rfl,gs,a5,c5,HO.out.2.1,HO.out.1.trans HG1.out,by have:=HO.out.2.2;omega,one_setCell hbox5,hown6.setCell (own_box_ne hbox5 hown6 (by decide)) _,(hbl1.trans hb5).setCell hBb _⟩
def gcdV (xss:List (List Int)):Int:=xss.foldl (fun a xs=>gI a (val xs)) 0
theorem gcdV_succ (xss:List (List Int)) (i:Nat) (h:i<xss.length):gcdV (xss.take (i+1))=gI (gcdV (xss.take i)) (val (xss.getD i [])):=by
 rw [take_succ_getD' xss i [] h];unfold gcdV;rw [List.foldl_append];rfl
theorem gcd_any {Lb k M:Nat} {vs:List Value} {xss:List (List Int)} {w:World} (hm:Many w Lb k vs xss) (hk:k≤1000) (hM:M≤1000000) (hs:∀ j,j<k→(xss.getD j []).length≤M) :
    Calls Tryz.prog 56 #[.slice (some ⟨Lb,0,none⟩) k k] w fun e w'=>∃ zs,can zs∧val zs=gcdV xss∧zs.length≤M+2*k∧Makes w e w' zs:=by
 go_enter Tryz.func56,Tryz.ntmps56;go_wp2
 go_loopw [8] (fun s wr=>∃ (i:Nat) (zs:List Int) (a:Option Addr) (c:Nat),i≤k∧s=.int .i64 i∧can zs∧Hid (val zs=gcdV (xss.take i))∧zs.length≤M+2*i∧Box wr w.heap.size 120 (.slice a zs.length c)∧Own w.heap.size wr (.slice a zs.length c) zs∧Below w.heap.size w wr)
  (fun s _=>k - (intOf s).toNat)
 case atStart=>exact ⟨0,[],none,0,Nat.zero_le _,rfl,can_nil,rfl,by simp,heap_alloc_new _ _,⟨lim_nil,World.ownsRow_nil _ _ _ _⟩,(Below.refl _ _).alloc (Nat.le_refl _) _⟩
 case round=>
  obtain ⟨i,zs,a1,c1,hik,rfl,hcan,hval,hlen,hbox,hown,hbl⟩:=hrel;have hsz:=hbl.size;have hlt0:=lt_of_block hbox;by_cases hlt:i<k
  · have hcell:wr.cell? ⟨Lb,i,none⟩=some (vs.getD i (.bool false)):=(hbl.cell hm.lt).trans (hm.cell i hlt)
    have hrd:Rd w.heap.size wr (vs.getD i (.bool false)) (xss.getD i []):=(hm.rd i hlt).below hbl;have hsi:=hs i hlt;generalize hV:vs.getD i (.bool false)=V at *;clear hV hs
    go_wp2_with fail
    refine (trim_rd hrd (by omega)).mono ?_;rintro e w2 ⟨a2,c2,rfl,hown2,hbl2⟩;have htl:=tr_length_le (xss.getD i []);have hct:=tr_can hrd.lim;have hvt:=val_tr (xss.getD i []);generalize tr (xss.getD i [])=us at *;have HVT:Hid (val us=val (xss.getD i [])):=hvt;clear hvt;have hsz2:=hbl2.size;have hbox2:Box w2 w.heap.size 120 (.slice a1 zs.length c1):=by unfold Box;rw [hbl2.block _ hlt0];exact hbox
    have hown2':Own w.heap.size w2 (.slice a1 zs.length c1) zs:=hown.below hbl2 (Nat.le_refl _);have hap:Apart (.slice a1 zs.length c1) (.slice a2 us.length c2):=fun q h1 h2=>by
     have:=(hown.2.lt q h1).2;have:=(hown2.2.lt q h2).1;omega
    go_wp2_with fail
    refine (with_any (K:=M+2*i) hbox2 hown2' hcan (hown2.mono hsz) hct hap (Nat.le_refl _) (by omega) hlen (by omega) (by omega)).mono ?_;rintro e w3 ⟨rfl,ts,a3,c3,hct3,hv3,hl3,hbox3,hown3,hbl3⟩;have HV3:Hid (val ts=gcdV (xss.take (i+1))):=by
     unfold Hid;rw [hv3,hval.out,HVT.out,gcdV_succ xss i (by rw [hm.lx];exact hlt)]
    clear hv3;go_wp2
    go_roundw
    case rel=>exact ⟨i+1,ts,a3,c3,by omega,by go_num,hct3,HV3,by omega,hbox3,hown3,hbl.trans ((hbl2.mono hsz).trans hbl3)⟩
    case measure=>simp [intOf];omega
  · obtain rfl:i=k:=by omega
    have hc:=cell_of_one hbox;go_wp2
    go_ret
    refine ⟨zs,hcan,?_,hlen,a1,c1,rfl,hown,hbl⟩;rw [hval.out,← hm.lx,List.take_length]
theorem gI_zero_left (x:Int) (h:0≤x):gI 0 x=x:=by rw [gI_comm];exact gI_zero x h
section
variable {B1 B2 B3:Nat} {w:World} {v1 v2 v3:Value} {x1 x2 x3:List Int}
theorem gcd2 (h1:Rd B1 w v1 x1) (h2:Rd B2 w v2 x2) (b1:B1≤w.heap.size) (b2:B2≤w.heap.size) (M:Nat) (hM:M≤1000000) (l1:x1.length≤M) (l2:x2.length≤M) :
    Calls Tryz.prog 56 #[.slice (some ⟨w.heap.size,0,none⟩) 2 2] (w.alloc (.cells #[v1,v2] 22)) fun e w'=>∃ zs,can zs∧val zs=gI (val x1) (val x2)∧zs.length≤M+4∧Makes w e w' zs:=by
 refine (gcd_any (M:=M) (many2 h1 h2 b1 b2) (by omega) hM (fun j hj => ?_)).mono ?_
 · match j,hj with
   | 0,_=>exact l1
   | 1,_=>exact l2
 · rintro e w' ⟨zs,cz,vz,lz,hm⟩
   exact ⟨zs,cz,by rw [vz];simp only [gcdV,List.foldl];rw [gI_zero_left _ (val_bound h1.lim).1],lz,hm.alloc⟩
end
/-- A call that tells whether P holds. -/
def TellsP (P:Prop) (e:Ending):Prop:=∃ r,e=.returned (.bool r)∧(r=true↔P)
theorem TellsP.yes {P:Prop} (h:P):TellsP P (.returned (.bool true)):=⟨true,rfl,⟨fun _=>h,fun _=>rfl⟩⟩
theorem TellsP.no {P:Prop} (h:¬ P):TellsP P (.returned (.bool false)):=⟨false,rfl,⟨(fun e=>by cases e),fun e=>absurd e h⟩⟩
theorem rightB_can {xs:List Int} (h:lim xs):rightB xs=true↔can xs:=by
 unfold rightB;rw [decide_eq_true_iff];constructor
 · intro e
   have h1:tr xs=xs:=by unfold tr at e ⊢;exact List.take_of_length_le (by rw [List.length_take] at e;omega)
   rw [← h1];exact tr_can h
 · intro hc
   rw [can_inj (tr_can h) hc (val_tr xs)]
theorem isOne_long (a:Option Addr) (n c:Nat) (w:World) (h:¬ n=1):Calls Tryz.prog 55 #[.slice a n c] w fun e w'=>e=.returned (.bool false)∧w=w':=by
 have hb:((n:Int)==1)=false:=by simp;omega
 go_enter Tryz.func55,Tryz.ntmps55;go_wp2
 go_ret
 exact ⟨rfl,rfl⟩
theorem isOne_one (b o c:Nat) (x:Int) (r:Bool) (w:World) (hr:(x==1)=r) (k:w.cell? ⟨b,o,none⟩=some (.int .u32 x)):Calls Tryz.prog 55 #[.slice (some ⟨b,o,none⟩) 1 c] w fun e w'=>e=.returned (.bool r)∧w=w':=by
 go_enter Tryz.func55,Tryz.ntmps55;go_wp2
 go_ret
 exact ⟨rfl,rfl⟩
theorem isOne_any {B:Nat} {w:World} {v:Value} {xs:List Int} (h:Rd B w v xs):Calls Tryz.prog 55 #[v] w fun e w'=>e=.returned (.bool (decide (xs=[1])))∧w=w':=by
 obtain ⟨_,a,c,rfl,hc,hb,_,kp⟩:=h;by_cases h1:xs.length=1
 · rcases kp with kp | ⟨b,o,rfl,_,kp⟩
   · omega
   match xs,h1 with
   | [x],_=>
    refine isOne_one b o c x _ w ?_ (kp 0 (by simp));by_cases hx:x=1
    · subst hx;rfl
    · rw [beq_eq_false_iff_ne.2 hx,decide_eq_false (by simpa using hx)]
 · rw [decide_eq_false (by intro e;rw [e] at h1;simp at h1)]
   exact isOne_long a xs.length c w h1
theorem one_any (w:World):Calls Tryz.prog 114 #[] w fun e w'=>Makes w e w' [1]:=by
 go_enter Tryz.func114,Tryz.ntmps114
 go_wp2_with fail
 refine (of_any 1 (by omega) (by omega) _).mono ?_;intro e w1 hm;rw [of_small 1 (by omega) (by omega)] at hm;obtain ⟨a1,c1,rfl,ho1,hb1⟩:=hm;go_wp2
 go_ret
 exact ⟨a1,c1,rfl,ho1,hb1⟩
/-- What a right number is. -/
def RightP (b:Bool) (ns ds:List Int):Prop:=ns.length≤32∧ds.length≤32∧can ns∧can ds∧¬ (b=true∧ns.length=0)∧0<ds.length∧gI (val ns) (val ds)=1
theorem gI_one_right (x:Int):gI x 1=1:=by unfold gI;simp
theorem right_rat {B:Nat} {w:World} {b:Bool} {a1 a2:Option Addr} {c1 c2:Nat} {ns ds:List Int} (h1:Rd B w (.slice a1 ns.length c1) ns) (h2:Rd B w (.slice a2 ds.length c2) ds) (hB:B≤w.heap.size) :
    Calls Tryz.prog 11 #[.agg #[.bool b,.slice a1 ns.length c1,.slice a2 ds.length c2]] w fun e w'=>TellsP (RightP b ns ds) e∧Below w.heap.size w w':=by
 have b0:Below w.heap.size w (w.alloc (.cells #[.bool b,.slice a1 ns.length c1,.slice a2 ds.length c2] 24)):=(Below.refl _ _).alloc (Nat.le_refl _) _;have g1:=h1.below (b0.mono hB);have g2:=h2.below (b0.mono hB);have s0:w.heap.size<(w.alloc (.cells #[.bool b,.slice a1 ns.length c1,.slice a2 ds.length c2] 24)).heap.size:=by simp
 have k0:(w.alloc (.cells #[.bool b,.slice a1 ns.length c1,.slice a2 ds.length c2] 24)).cell? ⟨w.heap.size,0,none⟩=some (.bool b):=by simp
 have k1:(w.alloc (.cells #[.bool b,.slice a1 ns.length c1,.slice a2 ds.length c2] 24)).cell? ⟨w.heap.size,1,none⟩=some (.slice a1 ns.length c1):=by simp
 have k2:(w.alloc (.cells #[.bool b,.slice a1 ns.length c1,.slice a2 ds.length c2] 24)).cell? ⟨w.heap.size,2,none⟩=some (.slice a2 ds.length c2):=by simp
 go_enter Tryz.func11,Tryz.ntmps11;by_cases q1:32<ns.length
 · go_wp2
   go_ret
   exact ⟨TellsP.no (fun h=>by have:=h.1;omega),b0⟩
 by_cases q2:32<ds.length
 · go_wp2
   go_ret
   exact ⟨TellsP.no (fun h=>by have:=h.2.1;omega),b0⟩
 have c1i:=rightB_can h1.lim;have c2i:=rightB_can h2.lim
 go_wp2_with fail
 generalize hA:w.alloc (.cells #[.bool b,.slice a1 ns.length c1,.slice a2 ds.length c2] 24)=wX at *;clear hA;refine (right_any g1).mono ?_;rintro e w' ⟨rfl,rfl⟩
 cases hr1:rightB ns with
 | false=>
  have HX:Hid (¬ can ns):=by intro h;rw [c1i.2 h] at hr1;cases hr1
  clear c1i c2i hr1;go_wp2
  go_ret
  exact ⟨TellsP.no (fun h=>HX.out h.2.2.1),b0⟩
 | true=>
  have H1:Hid (can ns):=c1i.1 hr1;clear c1i hr1
  go_wp2_with fail
  refine (right_any g2).mono ?_;rintro e w' ⟨rfl,rfl⟩
  cases hr2:rightB ds with
  | false=>
   have HX:Hid (¬ can ds):=by intro h;rw [c2i.2 h] at hr2;cases hr2
   clear c2i hr2;go_wp2
   go_ret
   exact ⟨TellsP.no (fun h=>HX.out h.2.2.2.1),b0⟩
  | true=>
   have H2:Hid (can ds):=c2i.1 hr2;clear c2i hr2;by_cases hbz:b=true∧ns.length=0
   · obtain ⟨rfl,hz⟩:=hbz
     have hz':¬ 0<ns.length:=by omega
     have HX:Hid (¬ RightP true ns ds):=fun h=>h.2.2.2.2.1 ⟨rfl,hz⟩;have hzb:((ns.length:Int)==0)=true:=by rw [hz];rfl
     clear hz;go_wp2
     go_ret
     exact ⟨TellsP.no HX.out,b0⟩
   · have HB:Hid (¬ (b=true∧ns.length=0)):=hbz
     have hcs:b=false∨(b=true∧((ns.length:Int)==0)=false):=by
      cases b with
      | false=>exact Or.inl rfl
      | true=>right;refine ⟨rfl,?_⟩;simp;intro e;exact hbz ⟨rfl,by rw [e];rfl⟩
     clear hbz;rcases hcs with rfl | ⟨rfl,hnb⟩
     all_goals
      go_wp2_with fail
      refine (isOne_any g2).mono ?_;rintro e w' ⟨rfl,rfl⟩;by_cases hone:ds=[1]
      · have HR:Hid (ds.length=1∧val ds=1):=by rw [hone];exact ⟨rfl,by decide⟩
        rw [decide_eq_true hone];clear hone;go_wp2
        go_ret
        exact ⟨TellsP.yes ⟨by omega,by omega,H1.out,H2.out,(by first | exact HB.out | (have:=HB.out;simpa using this)),by have:=HR.out.1;omega,by rw [HR.out.2];exact gI_one_right _⟩,b0⟩
      · rw [decide_eq_false hone]
        clear hone;by_cases hd0:0<ds.length
        · go_wp2_with fail
          refine (gcd2 g1 g2 (by omega) (by omega) 32 (by omega) (by omega) (by omega)).mono ?_;rintro e wg ⟨zs,cz,vz,lz,ag,qg,rfl,og,bg⟩
          go_wp2_with fail
          refine (isOne_any og.rd).mono ?_;rintro e w' ⟨rfl,rfl⟩;by_cases hz1:zs=[1]
          · have HG:Hid (gI (val ns) (val ds)=1):=by unfold Hid;rw [← vz,hz1];decide
            rw [decide_eq_true hz1];clear vz hz1 lz;go_wp2
            go_ret
            exact ⟨TellsP.yes ⟨by omega,by omega,H1.out,H2.out,(by first | exact HB.out | (have:=HB.out;simpa using this)),hd0,HG.out⟩,b0.trans (bg.mono (Nat.le_of_lt s0))⟩
          · have HG:Hid (¬ gI (val ns) (val ds)=1):=by
             intro h;rw [h] at vz;exact hz1 (limbs_of cz 1 (by omega) (by omega) vz)
            rw [decide_eq_false hz1];clear vz hz1 lz;go_wp2
            go_ret
            exact ⟨TellsP.no (fun h=>HG.out h.2.2.2.2.2.2),b0.trans (bg.mono (Nat.le_of_lt s0))⟩
        · go_wp2
          go_ret
          exact ⟨TellsP.no (fun h=>hd0 h.2.2.2.2.2.1),b0⟩
theorem gI_dvd (x y:Int) (hx:0≤x) (hy:0≤y):(∃ k,x=k*gI x y∧0≤k)∧∃ k,y=k*gI x y∧0≤k:=by
 unfold gI;obtain ⟨a,ha⟩:=Nat.gcd_dvd_left x.toNat y.toNat;obtain ⟨b,hb⟩:=Nat.gcd_dvd_right x.toNat y.toNat;refine ⟨⟨a,?_,by omega⟩,⟨b,?_,by omega⟩⟩
 · rw [← Int.natCast_mul,Nat.mul_comm,← ha];omega
 · rw [← Int.natCast_mul,Nat.mul_comm,← hb];omega
theorem gI_pos (x y:Int) (hx:0≤x) (hy:0<y):0<gI x y:=by
 unfold gI;have:=Nat.gcd_pos_of_pos_right x.toNat (show 0<y.toNat by omega);omega
theorem rest_zero (x q g s k:Int) (h:x=q*g+s) (h0:0≤s) (h1:s<g) (hk:x=k*g):s=0:=by
 have e:(q*g+s) % g=s:=by rw [Int.add_comm,Int.add_mul_emod_self_right,Int.emod_eq_of_lt h0 h1]
 rw [← h,hk,Int.mul_emod_left] at e;exact e.symm
theorem gI_rest (x y p t:Int) (hx:0≤x) (hy:0<y) (hp:0≤p) (ht:0≤t) (h1:x=p*gI x y) (h2:y=t*gI x y):gI p t=1:=by
 have hg:=gI_pos x y hx hy;obtain ⟨a,rfl⟩:=Int.eq_ofNat_of_zero_le hp;obtain ⟨b,rfl⟩:=Int.eq_ofNat_of_zero_le ht;obtain ⟨g,eg⟩:=Int.eq_ofNat_of_zero_le (Int.le_of_lt hg);rw [eg] at h1 h2 hg;have e1:x.toNat=a*g:=by rw [h1,← Int.natCast_mul];exact Int.toNat_natCast _
 have e2:y.toNat=b*g:=by rw [h2,← Int.natCast_mul];exact Int.toNat_natCast _
 have e3:Nat.gcd x.toNat y.toNat=g:=by unfold gI at eg;omega
 rw [e1,e2,Nat.gcd_mul_right] at e3;have e4:Nat.gcd a b=1:=by
  have:Nat.gcd a b*g=1*g:=by rw [e3,Nat.one_mul]
  exact Nat.eq_of_mul_eq_mul_right (by omega) this
 unfold gI;simp only [Int.toNat_natCast,e4];rfl
/-- A size with its sign. -/
def sg (b:Bool) (x:Int):Int:=if b then -x else x
theorem sg_mul (b:Bool) (x y:Int):sg b (x*y)=sg b x*y:=by unfold sg;split <;> simp [Int.neg_mul]
theorem sg_zero (b:Bool):sg b 0=0:=by unfold sg;split <;> rfl
theorem sg_false (x:Int):sg false x=x:=rfl
/-- N by D in lowest terms has too many limbs. -/
def Big (N D:Int):Prop:=∃ b ns ds,can ns∧can ds∧0<ds.length∧gI (val ns) (val ds)=1∧sg b (val ns)*D=N*val ds∧(32<ns.length∨32<ds.length)
/-- What the making of N by D answers: it is too great, or in lowest terms. -/
def RMakes (w:World) (N D:Int) (e:Ending) (w':World):Prop:=
 Below w.heap.size w w'∧((e=.returned (.tuple #[(.agg #[.bool false,.slice none 0 0,.slice none 0 0]),.int .i64 8])∧Big N D)∨∃ b ns ds a1 c1 a2 c2,e=.returned (.tuple #[.agg #[.bool b,.slice a1 ns.length c1,.slice a2 ds.length c2],.int .i64 0])∧Own w.heap.size w' (.slice a1 ns.length c1) ns∧Own w.heap.size w' (.slice a2 ds.length c2) ds∧RightP b ns ds∧sg b (val ns)*D=N*val ds)
theorem limited_ok (b:Bool) (a1 a2:Option Addr) (n1 c1 n2 c2:Nat) (w:World) (h1:n1≤32) (h2:n2≤32) :
    Calls Tryz.prog 121 #[.bool b,.slice a1 n1 c1,.slice a2 n2 c2] w fun e w'=>e=.returned (.tuple #[.agg #[.bool (b && decide (0<n1)),.slice a1 n1 c1,.slice a2 n2 c2],.int .i64 0])∧Below w.heap.size w w':=by
 have q1:¬ 32<n1:=by omega
 have q2:¬ 32<n2:=by omega
 go_enter Tryz.func121,Tryz.ntmps121
 cases b with
 | false=>
  go_wp2
  go_returns
  exact ⟨rfl,(Below.refl _ _).alloc (Nat.le_refl _) _⟩
 | true=>
  by_cases h0:0<n1
  · rw [decide_eq_true h0]
    go_wp2
    go_returns
    exact ⟨rfl,(Below.refl _ _).alloc (Nat.le_refl _) _⟩
  · rw [decide_eq_false h0]
    go_wp2
    go_returns
    exact ⟨rfl,(Below.refl _ _).alloc (Nat.le_refl _) _⟩
theorem limited_no (b:Bool) (a1 a2:Option Addr) (n1 c1 n2 c2:Nat) (w:World) (h:32<n1∨(¬ 32<n1∧32<n2)) :
    Calls Tryz.prog 121 #[.bool b,.slice a1 n1 c1,.slice a2 n2 c2] w fun e w'=>e=.returned (.tuple #[(.agg #[.bool false,.slice none 0 0,.slice none 0 0]),.int .i64 8])∧Below w.heap.size w w':=by
 go_enter Tryz.func121,Tryz.ntmps121;rcases h with h | ⟨h,h'⟩
 all_goals
  go_wp2
  go_returns
  exact ⟨rfl,(Below.refl _ _).alloc (Nat.le_refl _) _⟩
/-- rat.limited of limbs in lowest terms. -/
theorem limited_any {w0 w:World} {b:Bool} {a1 a2:Option Addr} {c1 c2:Nat} {ns ds:List Int} (N D:Int) (hb:Below w0.heap.size w0 w) (o1:Own w0.heap.size w (.slice a1 ns.length c1) ns) (o2:Own w0.heap.size w (.slice a2 ds.length c2) ds) (cn:can ns) (cd:can ds) (hd:0<ds.length) (hg:gI (val ns) (val ds)=1) (hv:sg b (val ns)*D=N*val ds) :
    Calls Tryz.prog 121 #[.bool b,.slice a1 ns.length c1,.slice a2 ds.length c2] w fun e w'=>RMakes w0 N D e w':=by
 by_cases h1:32<ns.length
 · refine (limited_no b a1 a2 _ c1 _ c2 w (Or.inl h1)).mono ?_
   rintro e w' ⟨rfl,hb'⟩;exact ⟨hb.trans (hb'.mono hb.size),Or.inl ⟨rfl,b,ns,ds,cn,cd,hd,hg,hv,Or.inl h1⟩⟩
 · by_cases h2:32<ds.length
   · refine (limited_no b a1 a2 _ c1 _ c2 w (Or.inr ⟨h1,h2⟩)).mono ?_
     rintro e w' ⟨rfl,hb'⟩;exact ⟨hb.trans (hb'.mono hb.size),Or.inl ⟨rfl,b,ns,ds,cn,cd,hd,hg,hv,Or.inr h2⟩⟩
   · refine (limited_ok b a1 a2 _ c1 _ c2 w (by omega) (by omega)).mono ?_
     rintro e w' ⟨rfl,hb'⟩;refine ⟨hb.trans (hb'.mono hb.size),Or.inr ⟨_,ns,ds,a1,c1,a2,c2,rfl,o1.below hb' (Nat.le_refl _),o2.below hb' (Nat.le_refl _),⟨by omega,by omega,cn,cd,?_,hd,hg⟩,?_⟩⟩
     · rintro ⟨hx,hz⟩
       rw [decide_eq_false (by omega)] at hx;simp at hx
     · by_cases h0:0<ns.length
       · rw [decide_eq_true h0,Bool.and_true];exact hv
       · have hz:=(can_zero cn).1 (by omega)
         rw [hz,sg_zero] at hv;rw [hz,sg_zero];exact hv
/-- A variable of three cells. -/
def Box3 (w:World) (B ty:Nat) (x y z:Value):Prop:=w.heap[B]? = some (.cells #[x,y,z] ty (0,0))
theorem box3_new (w:World) (x y z:Value) (t:Nat):Box3 (w.alloc (.cells #[x,y,z] t)) w.heap.size t x y z:=heap_alloc_new _ _
theorem Box3.below {w w':World} {B ty base:Nat} {x y z:Value} (h:Box3 w B ty x y z) (hb:Below base w w') (hB:B<base):Box3 w' B ty x y z:=by
 unfold Box3;rw [hb.block B hB];exact h
theorem Box3.c0 {w:World} {B ty:Nat} {x y z:Value} (h:Box3 w B ty x y z):w.cell? ⟨B,0,none⟩=some x:=by unfold Box3 at h;simp [World.cell?,h]
theorem Box3.c1 {w:World} {B ty:Nat} {x y z:Value} (h:Box3 w B ty x y z):w.cell? ⟨B,1,none⟩=some y:=by unfold Box3 at h;simp [World.cell?,h]
theorem Box3.c2 {w:World} {B ty:Nat} {x y z:Value} (h:Box3 w B ty x y z):w.cell? ⟨B,2,none⟩=some z:=by unfold Box3 at h;simp [World.cell?,h]
theorem Box3.f0 {w:World} {B ty:Nat} {x y z:Value} (h:Box3 w B ty x y z):w.frozen? ⟨B,0,none⟩=false:=by unfold Box3 at h;simp [World.frozen?,h]
theorem Box3.f1 {w:World} {B ty:Nat} {x y z:Value} (h:Box3 w B ty x y z):w.frozen? ⟨B,1,none⟩=false:=by unfold Box3 at h;simp [World.frozen?,h]
theorem Box3.f2 {w:World} {B ty:Nat} {x y z:Value} (h:Box3 w B ty x y z):w.frozen? ⟨B,2,none⟩=false:=by unfold Box3 at h;simp [World.frozen?,h]
theorem Box3.set {w2:World} {B ty:Nat} {p q r:Value} (h:Box3 w2 B ty p q r) (x y z:Value):Box3 (((w2.setCell ⟨B,0,none⟩ x).setCell ⟨B,1,none⟩ y).setCell ⟨B,2,none⟩ z) B ty x y z:=by
 unfold Box3 at h ⊢;simp [World.setCell,Array.getElem?_modify,h]
theorem Below.set3 {base B:Nat} {w w2:World} (h:Below base w w2) (hB:base≤B) (x y z:Value):Below base w (((w2.setCell ⟨B,0,none⟩ x).setCell ⟨B,1,none⟩ y).setCell ⟨B,2,none⟩ z):=
 ((h.setCell (p:=⟨B,0,none⟩) hB x).setCell (p:=⟨B,1,none⟩) hB y).setCell (p:=⟨B,2,none⟩) hB z
theorem Own.set3 {base B:Nat} {w2:World} {v:Value} {xs:List Int} (h:Own base w2 v xs) (hB:B<base) (x y z:Value):Own base (((w2.setCell ⟨B,0,none⟩ x).setCell ⟨B,1,none⟩ y).setCell ⟨B,2,none⟩ z) v xs:=
 ((h.setCell (a:=⟨B,0,none⟩) (ownBlock_ne h hB) x).setCell (a:=⟨B,1,none⟩) (ownBlock_ne h hB) y).setCell (a:=⟨B,2,none⟩) (ownBlock_ne h hB) z
/-- A number that was made, laid into the variable of the result. -/
theorem rmakes_done {w wR w2:World} {N D:Int} {b:Bool} {ns ds:List Int} {x1 x2:Option Addr} {y1 y2:Nat} (b0:Below w.heap.size w wR) (s0:w.heap.size<wR.heap.size) (hb:Below wR.heap.size wR w2) (on:Own wR.heap.size w2 (.slice x1 ns.length y1) ns) (od:Own wR.heap.size w2 (.slice x2 ds.length y2) ds) (hr:RightP b ns ds) (hv:sg b (val ns)*D=N*val ds) :
    RMakes w N D (.returned (.tuple #[.agg #[.bool b,.slice x1 ns.length y1,.slice x2 ds.length y2],.int .i64 0])) (((w2.setCell ⟨w.heap.size,0,none⟩ (.bool b)).setCell ⟨w.heap.size,1,none⟩ (.slice x1 ns.length y1)).setCell ⟨w.heap.size,2,none⟩ (.slice x2 ds.length y2)):=
 ⟨Below.set3 (b0.trans (hb.mono (Nat.le_of_lt s0))) (Nat.le_refl _) _ _ _,Or.inr ⟨b,ns,ds,x1,y1,x2,y2,rfl,(Own.set3 on s0 _ _ _).mono (Nat.le_of_lt s0),(Own.set3 od s0 _ _ _).mono (Nat.le_of_lt s0),hr,hv⟩⟩
theorem rmakes_none {w wR w2:World} {N D:Int} (b0:Below w.heap.size w wR) (s0:w.heap.size<wR.heap.size) (hb:Below wR.heap.size wR w2) (hbig:Big N D) (x y z:Value) :
    RMakes w N D (.returned (.tuple #[(.agg #[.bool false,.slice none 0 0,.slice none 0 0]),.int .i64 8])) (((w2.setCell ⟨w.heap.size,0,none⟩ x).setCell ⟨w.heap.size,1,none⟩ y).setCell ⟨w.heap.size,2,none⟩ z):=
 ⟨Below.set3 (b0.trans (hb.mono (Nat.le_of_lt s0))) (Nat.le_refl _) _ _ _,Or.inl ⟨rfl,hbig⟩⟩
theorem make_any {B1 B2:Nat} {w:World} {v1 v2:Value} {xs ys:List Int} (b:Bool) (N:Int) (h1:Rd B1 w v1 xs) (b1:B1≤w.heap.size) (h2:Rd B2 w v2 ys) (b2:B2≤w.heap.size) (n1:xs.length≤10000) (n2:ys.length≤10000) (hy:0<val ys) (hN:N=sg b (val xs)) :
    Calls Tryz.prog 175 #[.bool b,v1,v2] w fun e w'=>RMakes w N (val ys) e w':=by
 have cu:=tr_can h1.lim;have cv:=tr_can h2.lim;have lu:=tr_length_le xs;have lv:=tr_length_le ys;have hvl:¬ (tr ys).length=0:=by rw [can_zero cv,val_tr];omega
 have HV:Hid (val (tr xs)=val xs∧val (tr ys)=val ys∧0<val ys∧0≤val xs∧N=sg b (val xs)):=⟨val_tr xs,val_tr ys,hy,(val_bound h1.lim).1,hN⟩;clear hy hN;have hR:=box3_new w (.bool false) (.slice none 0 0) (.slice none 0 0) 24;have b0:Below w.heap.size w (w.alloc (.cells #[.bool false,.slice none 0 0,.slice none 0 0] 24)):=(Below.refl _ _).alloc (Nat.le_refl _) _;have s0:w.heap.size<(w.alloc (.cells #[.bool false,.slice none 0 0,.slice none 0 0] 24)).heap.size:=by simp
 replace h1:=h1.below (b0.mono b1);replace h2:=h2.below (b0.mono b2);go_enter Tryz.func175,Tryz.ntmps175
 go_wp2_with fail
 generalize hA:w.alloc (.cells #[.bool false,.slice none 0 0,.slice none 0 0] 24)=wR at *;clear hA;refine (trim_rd h1 (by omega)).mono ?_;rintro e wa ⟨a1,c1,rfl,o1,ba⟩;have sa:=ba.size
 go_wp2_with fail
 refine (trim_rd (h2.below (ba.mono (by omega))) (by omega)).mono ?_;rintro e wb ⟨a2,c2,rfl,o2,bb⟩;have sb:=bb.size;have bw:Below wR.heap.size wR wb:=ba.trans (bb.mono sa);have o1':Own wR.heap.size wb (.slice a1 (tr xs).length c1) (tr xs):=o1.below bb (Nat.le_refl _);have o2':Own wR.heap.size wb (.slice a2 (tr ys).length c2) (tr ys):=o2.mono sa;have hs:=bw.size;clear o1 o2 ba bb sa sb h1 h2;generalize tr xs=us at *;generalize tr ys=vs at *;have hvp:0<vs.length:=by omega
 have hvb:((vs.length:Int)==0)=false:=by rw [beq_eq_false_iff_ne];omega
 clear hvl
 go_wp2_with fail
 refine (isOne_any o2'.rd).mono ?_;rintro e w' ⟨rfl,rfl⟩;by_cases hone:vs=[1]
 · have HR:Hid (val vs=1):=by unfold Hid;rw [hone];decide
   rw [decide_eq_true hone];clear hone;have hlim:=limited_any (b:=b) N (val ys) bw o1' o2' cu cv hvp (by rw [HR.out];exact gI_one_right _) (by
    have h3:=HV.out;rw [HR.out] at h3 ⊢;rw [← h3.2.1,h3.2.2.2.2,h3.1])
   go_wp2_with fail
   refine hlim.mono ?_;rintro e w2 ⟨hbw,⟨rfl,hbig⟩ | ⟨b',ns,ds,x1,y1,x2,y2,rfl,on,od,hr,hv⟩⟩
   · have HBG:Hid (Big N (val ys)):=hbig
     clear hbig;have hR2:=hR.below hbw s0;have q0:=hR2.c0;have q1:=hR2.c1;have q2:=hR2.c2;have p0:=hR2.f0;have p1:=hR2.f1;have p2:=hR2.f2;go_wp2
     have hR3:=hR2.set (.bool false) (.slice none 0 0) (.slice none 0 0);have r0:=hR3.c0;have r1:=hR3.c1;have r2:=hR3.c2;refine bodyPost_ret (v:=.tuple #[.agg #[.bool false,.slice none 0 0,.slice none 0 0],.int .i64 8]) (by simp [results,Tryz.results175,go_sem,r0,r1,r2]) rfl ?_;exact rmakes_none b0 s0 hbw HBG.out _ _ _
   · have HX:Hid (RightP b' ns ds∧sg b' (val ns)*val ys=N*val ds):=⟨hr,hv⟩
     clear hr hv;have hR2:=hR.below hbw s0;have q0:=hR2.c0;have q1:=hR2.c1;have q2:=hR2.c2;have p0:=hR2.f0;have p1:=hR2.f1;have p2:=hR2.f2;go_wp2
     have hR3:=hR2.set (.bool b') (.slice x1 ns.length y1) (.slice x2 ds.length y2);have r0:=hR3.c0;have r1:=hR3.c1;have r2:=hR3.c2;refine bodyPost_ret (v:=.tuple #[.agg #[.bool b',.slice x1 ns.length y1,.slice x2 ds.length y2],.int .i64 0]) (by simp [results,Tryz.results175,go_sem,r0,r1,r2]) rfl ?_;exact rmakes_done b0 s0 hbw on od HX.out.1 HX.out.2
 · rw [decide_eq_false hone]
   clear hone
   go_wp2_with fail
   refine (gcd2 o1'.rd o2'.rd (Nat.le_refl _) (Nat.le_refl _) 10000 (by omega) (by omega) (by omega)).mono ?_;rintro e wg ⟨g,cg,vg,lg,ag,qg,rfl,og,bg⟩;have sg':=bg.size;have hgp:0<val g:=by rw [vg];exact gI_pos _ _ (by have:=HV.out;omega) (by have:=HV.out;omega)
   obtain ⟨⟨k1,hk1,_⟩,⟨k2,hk2,_⟩⟩:=gI_dvd (val us) (val vs) (by have:=HV.out;omega) (by have:=HV.out;omega);rw [← vg] at hk1 hk2;have HG:Hid (val g=gI (val us) (val vs)∧val us=k1*val g∧val vs=k2*val g):=⟨vg,hk1,hk2⟩;clear vg hk1 hk2;have o1g:=o1'.below bg (Nat.le_refl _);have o2g:=o2'.below bg (Nat.le_refl _);have bwg:Below wR.heap.size wR wg:=bw.trans (bg.mono hs)
   go_wp2_with fail
   refine (divMod_any o1g.rd (Nat.le_refl _) og.rd (Nat.le_refl _) (by omega) (by omega) (by omega)).mono ?_;rintro e wh ⟨qs,rs,a5,c5,a6,c6,rfl,oq,or,cq,cr,hv5,hl5,lq,lr,bh⟩;have hr0:=rest_zero _ _ _ _ k1 hv5 (val_bound cr.1).1 hl5 HG.out.2.1;have HQ:Hid (val us=val qs*val g):=by unfold Hid;rw [hv5,hr0,Int.add_zero]
   clear hv5 hl5 hr0;have o2h:=o2g.below bh (Nat.le_refl _);have ogh:=og.below bh (Nat.le_refl _);have bwh:Below wR.heap.size wR wh:=bwg.trans (bh.mono (by omega));have sh':=bh.size
   go_wp2_with fail
   refine (divMod_any o2h.rd (Nat.le_refl _) ogh.rd (Nat.le_refl _) (by omega) (by omega) (by omega)).mono ?_;rintro e wi ⟨ts,us2,a7,c7,a8,c8,rfl,ot,ou,ct,cu2,hv7,hl7,lt',lu2,bi⟩;have hu0:=rest_zero _ _ _ _ k2 hv7 (val_bound cu2.1).1 hl7 HG.out.2.2;have HT:Hid (val vs=val ts*val g):=by unfold Hid;rw [hv7,hu0,Int.add_zero]
   clear hv7 hl7 hu0;have si:=bi.size;have bwi:Below wR.heap.size wR wi:=bwh.trans (bi.mono (by omega));have oq2:Own wR.heap.size wi (.slice a5 qs.length c5) qs:=(oq.below bi (Nat.le_refl _)).mono (by omega);have ot2:Own wR.heap.size wi (.slice a7 ts.length c7) ts:=ot.mono (by omega);have h3:=HV.out;have hqn:=(val_bound cq.1).1;have htn:=(val_bound ct.1).1;have hgg:=gI_rest (val us) (val vs) (val qs) (val ts) (by omega) (by omega) hqn htn (by rw [← HG.out.1];exact HQ.out) (by rw [← HG.out.1];exact HT.out);have htp:0<ts.length:=by
    by_cases h0:ts.length=0
    · have:=(can_zero ct).1 h0
      have h4:=HT.out;rw [this,Int.zero_mul] at h4;omega
    · omega
   have hlim:=limited_any (b:=b) N (val ys) bwi oq2 ot2 cq ct htp hgg (by
    rw [h3.2.2.2.2,← h3.1,← h3.2.1,HQ.out,HT.out,sg_mul];simp only [Int.mul_assoc,Int.mul_comm,Int.mul_left_comm])
   clear h3 hqn htn hgg hgp
   go_wp2_with fail
   refine hlim.mono ?_;rintro e w2 ⟨hbw,⟨rfl,hbig⟩ | ⟨b',ns,ds,x1,y1,x2,y2,rfl,on,od,hr,hv⟩⟩
   · have HBG:Hid (Big N (val ys)):=hbig
     clear hbig;have hR2:=hR.below hbw s0;have q0:=hR2.c0;have q1:=hR2.c1;have q2:=hR2.c2;have p0:=hR2.f0;have p1:=hR2.f1;have p2:=hR2.f2;go_wp2
     have hR3:=hR2.set (.bool false) (.slice none 0 0) (.slice none 0 0);have r0:=hR3.c0;have r1:=hR3.c1;have r2:=hR3.c2;refine bodyPost_ret (v:=.tuple #[.agg #[.bool false,.slice none 0 0,.slice none 0 0],.int .i64 8]) (by simp [results,Tryz.results175,go_sem,r0,r1,r2]) rfl ?_;exact rmakes_none b0 s0 hbw HBG.out _ _ _
   · have HX:Hid (RightP b' ns ds∧sg b' (val ns)*val ys=N*val ds):=⟨hr,hv⟩
     clear hr hv;have hR2:=hR.below hbw s0;have q0:=hR2.c0;have q1:=hR2.c1;have q2:=hR2.c2;have p0:=hR2.f0;have p1:=hR2.f1;have p2:=hR2.f2;go_wp2
     have hR3:=hR2.set (.bool b') (.slice x1 ns.length y1) (.slice x2 ds.length y2);have r0:=hR3.c0;have r1:=hR3.c1;have r2:=hR3.c2;refine bodyPost_ret (v:=.tuple #[.agg #[.bool b',.slice x1 ns.length y1,.slice x2 ds.length y2],.int .i64 0]) (by simp [results,Tryz.results175,go_sem,r0,r1,r2]) rfl ?_;exact rmakes_done b0 s0 hbw on od HX.out.1 HX.out.2
theorem less_step (us ys:List Int) (i:Nat) (c V z c':Int) (hi:i<us.length) (h:val us - c*pw i=V - val (ys.take i)) (ht:us.getD i 0 - c - ys.getD i 0=z - c'*4294967296) :
    val (us.set i z) - c'*pw (i+1)=V - val (ys.take (i+1)):=by
 have hy:val (ys.take (i+1))=val (ys.take i)+ys.getD i 0*pw i:=by
  by_cases hy:i<ys.length
  · exact val_take_succ ys i hy
  · have e1:ys.take (i+1)=ys.take i:=by rw [List.take_of_length_le (by omega),List.take_of_length_le (by omega)]
    have e2:ys.getD i 0=0:=by simp [List.getD,List.getElem?_eq_none (Nat.le_of_not_lt hy)]
    rw [e1,e2];simp
 rw [val_set _ _ _ hi,hy,pw_succ];have key:=congrArg (fun u=>u*pw i) ht;simp only [Int.add_mul,Int.sub_mul,Int.mul_assoc,Int.mul_comm,Int.mul_left_comm] at *;omega
/-- What the difference of limbs is in a word of 64 bits, round or not. -/
theorem less_word (V C Y:Int) (hV:0≤V∧V<4294967296) (hC:0≤C∧C≤1) (hY:0≤Y∧Y<4294967296) :
    ∃ T z c',IntKind.u64.wrap (IntKind.u64.wrap (V - C) - Y)=T∧0≤T∧T<18446744073709551616∧T % 4294967296=z∧T/9223372036854775808=c'∧0≤c'∧c'≤1∧(0≤z∧z<4294967296)∧V - C - Y=z - c'*4294967296:=by
 refine ⟨_,_,_,rfl,?_,?_,rfl,rfl,?_,?_,?_,?_⟩
 all_goals (simp only [IntKind.wrap_u64];omega)
theorem less_walk {base B ty:Nat} {w:World} {xs ys:List Int} (a:Option Addr) (c L m bc:Nat) (ba:Option Addr) (hxl:Hid (xs.length=L)) (hy:Hid (ys.length=m)) (ly:lim ys) (hty:ty≠100) (hbox:Box w B ty (.slice a L c)) (hown:Own base w (.slice a L c) xs) (hBb:base≤B) (hbs:base≤w.heap.size)
    (hn:L≤17592186044415) (hm:m≤17592186044415) (hge:Hid (val ys≤val xs)) (hml:m≤L)
    (kb:0<m→∃ g o,ba=some ⟨g,o,none⟩∧g<base∧∀ j,j<m→w.cell? ⟨g,o+j,none⟩=some (.int .u32 (ys.getD j 0))) :
    Calls Tryz.prog 180 #[.pointer (some ⟨B,0,none⟩),.slice ba m bc] w fun e w'=>e=.returned (.tuple #[])∧∃ zs,can zs∧val zs=val xs - val ys∧zs.length≤xs.length∧St base w' B ty zs∧Below base w w':=by
 have hc:=cell_of_one hbox;have fin:∀ (vs:List Int) (wr:World),Hid (vs.length=L)→Own base wr (.slice a L c) vs→Box wr B ty (.slice a L c)→Below base w wr→val vs=val xs - val ys →
     (∃ zs,can zs∧val zs=val xs - val ys∧zs.length≤xs.length∧St base (wr.setCell ⟨B,0,none⟩ (vtake (.slice a L c) (tl vs vs.length))) B ty zs∧Below base w (wr.setCell ⟨B,0,none⟩ (vtake (.slice a L c) (tl vs vs.length)))):=by
  intro vs wr hvl ho hb hbl hv;have hM:=ho.meant;have hv5:vtake (.slice a L c) (tl vs vs.length)=.slice a (tr vs).length c:=by rw [tr_length];rfl
  rw [hv5] at hM ⊢;have hs:=hbl.size;refine ⟨tr vs,tr_can ho.lim,by rw [val_tr];exact hv,?_,⟨a,c,one_setCell hb,hM.setCell (own_box_ne hb hM hty) _,hBb,by simp;omega⟩,hbl.setCell hBb _⟩;have h1:=tr_length_le vs;have h2:=hvl.out;have h3:=hxl.out;omega
 have FIN:Hid (∀ (vs:List Int) (wr:World),Hid (vs.length=L)→Own base wr (.slice a L c) vs→Box wr B ty (.slice a L c)→Below base w wr→val vs=val xs - val ys →
     (∃ zs,can zs∧val zs=val xs - val ys∧zs.length≤xs.length∧St base (wr.setCell ⟨B,0,none⟩ (vtake (.slice a L c) (tl vs vs.length))) B ty zs∧Below base w (wr.setCell ⟨B,0,none⟩ (vtake (.slice a L c) (tl vs vs.length))))):=fin
 clear fin;go_enter Tryz.func180,Tryz.ntmps180;go_wp2
 go_loopw [13,4] (fun s cr wr=>∃ (i:Nat) (C:Int) (vs:List Int),i≤L∧s=.int .i64 i∧cr=.int .u64 C∧0≤C∧C≤1∧Hid (vs.length=L)∧Own base wr (.slice a L c) vs∧Box wr B ty (.slice a L c)∧Below base w wr∧Hid (val vs - C*pw i=val xs - val (ys.take i)))
  (fun s _ _=>L - (intOf s).toNat)
 case atStart=>exact ⟨0,0,xs,Nat.zero_le _,rfl,rfl,by omega,by omega,hxl,hown,hbox,Below.refl _ _,by unfold Hid;simp [val]⟩
 case round=>
  obtain ⟨i,C,vs,hiL,rfl,rfl,hC0,hC1,hvl,hown3,hbox3,hbl3,hval3⟩:=hrel;have hc3:=cell_of_one hbox3;clear hc hbox hown;by_cases hlt2:i<L
  · rcases hown3.shape with ⟨hnil,hnil2⟩ | ⟨g,cap,hv,hgb,hgs,_,_⟩
    · have:=hvl.out;rw [hnil2] at this;simp at this;omega
    have ha2:a=some ⟨g,0,none⟩:=by
     have:=congrArg (fun v:Value=>match v with | .slice a _ _=>a | _=>none) hv
     exact this
    clear hv;subst ha2;have hcv:=hown3.cellAt hvl.out i hlt2;have hfv:=hown3.frozenAt hvl.out i;have rv:=lim_getD hown3.lim i;have hneB:=own_box_ne hbox3 hown3 hty;have hneB':g≠B:=fun e=>hneB (by rw [e];rfl);generalize hV:vs.getD i 0=V at *;have HV:Hid (vs.getD i 0=V):=hV;clear hV;by_cases him:i<m
    · obtain ⟨gb,ob,hba,hgb2,hbc⟩:=kb (by omega)
      subst hba;have hcy:wr.cell? ⟨gb,ob+i,none⟩=some (.int .u32 (ys.getD i 0)):=(hbl3.cell hgb2).trans (hbc i him);have ry:=lim_getD ly i;generalize hY:ys.getD i 0=Y at *;have HY:Hid (ys.getD i 0=Y):=hY;clear hY hbc kb;obtain ⟨T,z,c',eT,t0,t1,ez,ec,c0,c1,zr,heq⟩:=less_word V C Y rv ⟨hC0,hC1⟩ ry;have HEQ:Hid (V - C - Y=z - c'*4294967296):=heq;have hS:=hown3.stored hvl.out i z zr;clear heq;go_wp2
      go_roundw
      case rel=>exact ⟨i+1,c',vs.set i z,by omega,by go_num,rfl,c0,c1,(by unfold Hid;rw [List.length_set];exact hvl.out),hS,box_set hbox3 hneB' _ _,hbl3.setCell hgb _,less_step vs ys i C (val xs) z c' (by rw [hvl.out];exact hlt2) hval3.out (by rw [HV.out,HY.out];exact HEQ.out)⟩
      case measure=>simp [intOf];omega
    · have hY0:ys.getD i 0=0:=by simp [List.getD,List.getElem?_eq_none (show ys.length≤i by rw [hy.out];omega)]
      have HY:Hid (ys.getD i 0=0):=hY0;clear hY0 kb;by_cases hC:C=0
      · subst hC
        have hfin:val vs=val xs - val ys:=by
         have h3:=hval3.out;rw [List.take_of_length_le (show ys.length≤i by rw [hy.out];omega)] at h3;rw [← h3];simp
        have F:=FIN.out vs wr hvl hown3 hbox3 hbl3 hfin;clear FIN hfin hcv hfv
        go_wp2_with fail
        refine (trimM_any hbox3 hown3.rd).mono ?_;rintro e w2 ⟨rfl,rfl⟩;go_wp2
        go_end0
        exact ⟨rfl,F⟩
      · have hCb:(C==0)=false:=by simpa using hC
        obtain ⟨T,z,c',eT,t0,t1,ez,ec,c0,c1,zr,heq⟩:=less_word V C 0 rv ⟨hC0,hC1⟩ ⟨by omega,by omega⟩;have HEQ:Hid (V - C - 0=z - c'*4294967296):=heq;have eT':IntKind.u64.wrap (V - C)=T:=by rw [← eT,Int.sub_zero];simp only [IntKind.wrap_u64];omega
        have hS:=hown3.stored hvl.out i z zr;clear heq eT;go_wp2
        go_roundw
        case rel=>exact ⟨i+1,c',vs.set i z,by omega,by go_num,rfl,c0,c1,(by unfold Hid;rw [List.length_set];exact hvl.out),hS,box_set hbox3 hneB' _ _,hbl3.setCell hgb _,less_step vs ys i C (val xs) z c' (by rw [hvl.out];exact hlt2) hval3.out (by rw [HV.out,HY.out];exact HEQ.out)⟩
        case measure=>simp [intOf];omega
  · obtain rfl:i=L:=by omega
    have hfin:val vs=val xs - val ys:=by
     have h3:=hval3.out;rw [List.take_of_length_le (show ys.length≤i by rw [hy.out];omega)] at h3;have h4:=(val_bound hown3.lim).2;rw [hvl.out] at h4;have h5:=hge.out;have hc01:C=0∨C=1:=by omega
     rcases hc01 with rfl | rfl
     · simpa using h3
     · simp only [Int.one_mul] at h3;omega
    have F:=FIN.out vs wr hvl hown3 hbox3 hbl3 hfin;clear FIN hfin kb
    go_wp2_with fail
    refine (trimM_any hbox3 hown3.rd).mono ?_;rintro e w2 ⟨rfl,rfl⟩;go_wp2
    go_end0
    exact ⟨rfl,F⟩
theorem can_len_le {xs ys:List Int} (hx:can xs) (hy:can ys) (h:val ys≤val xs):ys.length≤xs.length:=by
 by_cases hl:ys.length≤xs.length
 · exact hl
 · have:=can_len_lt hx hy (by omega);omega
/-- (*subtractor).less: the difference, right limbs. -/
theorem less_any {base B ty Br:Nat} {w:World} {bv:Value} {xs ys:List Int} (hty:ty≠100) (hs:St base w B ty xs) (cx:can xs) (hb:Rd Br w bv ys) (cy:can ys) (hBr:Br≤base) (hn:xs.length≤17592186044415) (hge:val ys≤val xs) :
    Calls Tryz.prog 180 #[.pointer (some ⟨B,0,none⟩),bv] w fun e w'=>e=.returned (.tuple #[])∧∃ zs,can zs∧val zs=val xs - val ys∧zs.length≤xs.length∧St base w' B ty zs∧Below base w w':=by
 obtain ⟨a,c,hbox,hown,hBb,hbs⟩:=hs;obtain ⟨ly,ba,bc,rfl,_,_,_,kb⟩:=hb;have hml:=can_len_le cx cy hge;refine less_walk a c xs.length ys.length bc ba rfl rfl ly hty hbox hown hBb hbs hn (by omega) hge hml ?_;intro h0;rcases kb with kb | ⟨g,o,ha,hg,hc⟩
 · omega
 · exact ⟨g,o,ha,by omega,hc⟩
/-- What nat.Minus hands back. -/
def Minuses (w:World) (n:Int) (e:Ending) (w':World):Prop:=
 Below w.heap.size w w'∧if n<0 then e=.returned (.tuple #[.slice none 0 0,.bool false]) else ∃ zs a c,can zs∧val zs=n∧e=.returned (.tuple #[.slice a zs.length c,.bool true])∧Own w.heap.size w' (.slice a zs.length c) zs
theorem minus_any {B1 B2:Nat} {w:World} {v1 v2:Value} {xs ys:List Int} (h1:Rd B1 w v1 xs) (hB1:B1≤w.heap.size) (h2:Rd B2 w v2 ys) (hB2:B2≤w.heap.size) (hn:xs.length≤17592186044415) :
    Calls Tryz.prog 150 #[v1,v2] w fun e w'=>Minuses w (val xs - val ys) e w'∧(val ys≤val xs→∃ zs a c,zs.length≤xs.length∧can zs∧val zs=val xs - val ys∧e=.returned (.tuple #[.slice a zs.length c,.bool true])∧Own w.heap.size w' (.slice a zs.length c) zs):=by
 by_cases hlt:val xs<val ys
 · have hcm:=cmpI_lt hlt
   go_enter Tryz.func150,Tryz.ntmps150
   go_wp2_with fail
   refine (compare_bl h1 h2).mono ?_;rintro e wa ⟨rfl,ba⟩;rw [hcm];go_wp2
   go_ret2
   refine ⟨⟨ba,?_⟩,fun h=>by omega⟩;rw [if_pos (by omega)];rfl
 · obtain ⟨cm,hcm,hcm0⟩:∃ cm,cmpI (val xs) (val ys)=cm∧0≤cm:=by
    by_cases he:val xs=val ys
    · exact ⟨0,cmpI_eq he,by omega⟩
    · exact ⟨1,cmpI_gt (by omega),by omega⟩
   have ht:=h2.meant;go_enter Tryz.func150,Tryz.ntmps150
   go_wp2_with fail
   refine (compare_bl h1 h2).mono ?_;rintro e wa ⟨rfl,ba⟩;rw [hcm];have sa:=ba.size;have h1a:=h1.below (ba.mono hB1);have h2a:=h2.below (ba.mono hB2);have hta:=ht.below (ba.mono hB2);have HLT:Hid (val ys≤val xs):=by unfold Hid;omega
   clear hlt hcm
   go_wp2_with fail
   refine (begin_any h1a (by omega) (by omega)).mono ?_;intro e w1 hm1;obtain ⟨a,c,rfl,ho,hb⟩:=hm1;have hz:=hb.size;have hl2:=tr_length_le xs;have cx:=tr_can h1.lim;have hvx:=val_tr xs;generalize tr xs=xs' at *;have HVX:Hid (val xs'=val xs):=hvx;clear hvx;have hst:St wa.heap.size (w1.alloc (.cells #[.slice a xs'.length c] 166)) w1.heap.size 166 xs':=⟨a,c,heap_alloc_new _ _,ho.alloc _,hz,by simp;omega⟩;have bq:Below wa.heap.size wa (w1.alloc (.cells #[.slice a xs'.length c] 166)):=hb.alloc hz _;have h2b:=h2a.below (bq.mono (by omega))
   go_wp2_with fail
   refine (meant_rd h2b).mono ?_;rintro e w' ⟨rfl,rfl⟩
   go_wp2_with fail
   refine (less_any (by decide) hst cx h2b.meant (tr_can h2.lim) (by omega) (by omega) (by rw [val_tr,HVX.out];have:=HLT.out;omega)).mono ?_;rintro e w2 ⟨rfl,zs,cz,vz,lz,⟨a3,c3,hbox3,hown3,_,hbs3⟩,hbl2⟩;have hc3:=cell_of_one hbox3;have hlt3:=lt_of_block hbox3;rw [val_tr,HVX.out] at vz;have HVZ:Hid (val zs=val xs - val ys):=vz;clear vz;go_wp2
   go_ret2
   have hbw:Below w.heap.size w w2:=ba.trans ((bq.trans hbl2).mono sa);have ho2:=hown3.mono (base':=w.heap.size) sa;refine ⟨⟨hbw,?_⟩,fun _=>⟨zs,a3,c3,by omega,cz,HVZ.out,rfl,ho2⟩⟩;rw [if_neg (by have:=HLT.out;omega)];exact ⟨zs,a3,c3,cz,HVZ.out,rfl,ho2⟩
/-- What rat.sum answers: limbs of S with their sign. -/
def Sums (w:World) (S:Int) (L:Nat) (e:Ending) (w':World):Prop:=
 Below w.heap.size w w'∧∃ b zs a c,e=.returned (.tuple #[.bool b,.slice a zs.length c])∧Own w.heap.size w' (.slice a zs.length c) zs∧can zs∧sg b (val zs)=S∧zs.length≤L
theorem sg_same (b:Bool) (x y:Int):sg b (x+y)=sg b x+sg b y:=by unfold sg;split <;> omega
theorem sg_diff (b:Bool) (x y:Int):sg b (x - y)=sg b x+sg (!b) y:=by unfold sg;cases b <;> simp <;> omega
theorem sg_diff' (b:Bool) (x y:Int):sg (!b) (y - x)=sg b x+sg (!b) y:=by unfold sg;cases b <;> simp <;> omega
theorem sum_rat {B1 B2:Nat} {w:World} {bx cy:Bool} {a1 a2:Option Addr} {c1 c2:Nat} {xs ys:List Int} (L:Nat) (S:Int) (h1:Rd B1 w (.slice a1 xs.length c1) xs) (b1:B1≤w.heap.size) (h2:Rd B2 w (.slice a2 ys.length c2) ys) (b2:B2≤w.heap.size) (n1:xs.length≤L) (n2:ys.length≤L) (hL:L≤1000) (hS:S=sg bx (val xs)+sg cy (val ys)) :
    Calls Tryz.prog 174 #[.bool bx,.slice a1 xs.length c1,.bool cy,.slice a2 ys.length c2] w fun e w'=>Sums w S (2*L+2) e w':=by
 have HS:Hid (S=sg bx (val xs)+sg cy (val ys)):=hS;clear hS;go_enter Tryz.func174,Tryz.ntmps174;by_cases hb:bx=cy
 · subst hb
   have hbb:(bx==bx)=true:=by simp
   go_wp2_with fail
   refine (sum2 h1 h2 b1 b2 (by omega) (by omega)).mono ?_;rintro e wa ⟨zs,cz,vz,lz,a3,c3,rfl,o3,ba⟩;have HV:Hid (sg bx (val zs)=S):=by unfold Hid;rw [vz,sg_same,HS.out]
   clear vz;go_wp2
   go_ret2
   exact ⟨ba,bx,zs,a3,c3,rfl,o3,cz,HV.out,by omega⟩
 · have hc:cy = !bx:=by cases bx <;> cases cy <;> simp_all
   subst hc;have hbb:(bx == !bx)=false:=by cases bx <;> rfl
   clear hb
   go_wp2_with fail
   refine (minus_any h1 b1 h2 b2 (by omega)).mono ?_;rintro e wa ⟨⟨ba,hmin⟩,hmin0⟩;have sa:=ba.size;by_cases hlt:val xs - val ys<0
   · rw [if_pos hlt] at hmin
     subst hmin;have HLT:Hid (val xs<val ys):=by unfold Hid;omega
     clear hlt
     go_wp2_with fail
     refine (minus_any (h2.below (ba.mono b2)) (by omega) (h1.below (ba.mono b1)) (by omega) (by omega)).mono ?_;rintro e wb ⟨⟨bb,_⟩,hmin2⟩;obtain ⟨zs,a3,c3,lz,cz,vz,rfl,o3⟩:=hmin2 (by have:=HLT.out;omega);have HV:Hid (sg (!bx) (val zs)=S):=by unfold Hid;rw [vz,sg_diff',HS.out]
     clear vz hmin2;go_wp2
     go_ret2
     exact ⟨ba.trans (bb.mono sa),!bx,zs,a3,c3,rfl,o3.mono sa,cz,HV.out,by omega⟩
   · rw [if_neg hlt] at hmin
     clear hmin;obtain ⟨zs,a3,c3,hzl,cz,vz,rfl,o3⟩:=hmin0 (by omega);have HV:Hid (sg bx (val zs)=S):=by unfold Hid;rw [vz,sg_diff,HS.out]
     clear vz hlt;go_wp2
     go_ret2
     exact ⟨ba,bx,zs,a3,c3,rfl,o3,cz,HV.out,by omega⟩
theorem sg_neq (b c:Bool) (x y:Int):sg (b != c) (x*y)=sg b x*sg c y:=by unfold sg;cases b <;> cases c <;> simp [Int.neg_mul,Int.mul_neg]
theorem right_pos {b:Bool} {ns ds:List Int} (h:RightP b ns ds):0<val ds∧0≤val ns:=by
 have h1:=can_low h.2.2.2.1 h.2.2.2.2.2.1;have h2:=pw_pos (ds.length - 1);exact ⟨by omega,(val_bound h.2.2.1.1).1⟩
/-- A product of two that lie in a list. -/
theorem prod_at {w:World} {Lb:Nat} {v1 v2:Value} {x1 x2:List Int} (hm:Many w Lb 2 [v1,v2] [x1,x2]) (l1:x1.length≤1000) (l2:x2.length≤1000) :
    Calls Tryz.prog 120 #[.slice (some ⟨Lb,0,none⟩) 2 2] w fun e w'=>∃ zs,can zs∧val zs=val x1*val x2∧zs.length≤1+(x1.length+x2.length)∧Makes w e w' zs:=by
 refine (product_any hm (by omega) (by simp [sumL];omega)).mono ?_;rintro e w' ⟨zs,cz,vz,lz,hm⟩;exact ⟨zs,cz,by rw [vz];simp [prodV],by simpa [sumL] using lz,hm⟩
theorem Many.grow {w w':World} {Lb k:Nat} {vs:List Value} {xss:List (List Int)} (h:Many w Lb k vs xss) (hb:Below w.heap.size w w'):Many w' Lb k vs xss where
 lv:=h.lv
 lx:=h.lx
 lt:=Nat.lt_of_lt_of_le h.lt hb.size
 cell:=fun j hj=>(hb.cell h.lt).trans (h.cell j hj)
 rd:=fun j hj=>((h.rd j hj).below hb).mono hb.size
theorem Makes.undrew {w w':World} {e:Ending} {xs:List Int} (h:Makes w.drew e w' xs):Makes w e w' xs:=by
 obtain ⟨a,c,he,ho,hb⟩:=h;exact ⟨a,c,he,ho,⟨hb.os,hb.tape,hb.output,hb.size,hb.block⟩⟩
theorem below_alloc (w:World) (o:Obj):Below w.heap.size w (w.alloc o):=(Below.refl _ _).alloc (Nat.le_refl _) _
theorem Box3.other {w2:World} {B R ty:Nat} {p q r:Value} (h:Box3 w2 B ty p q r) (hne:B≠R) (x y z:Value):Box3 (((w2.setCell ⟨R,0,none⟩ x).setCell ⟨R,1,none⟩ y).setCell ⟨R,2,none⟩ z) B ty p q r:=by
 unfold Box3 at h ⊢;have hne':¬ R=B:=fun e=>hne e.symm;simp [World.setCell,Array.getElem?_modify,hne',h]
/-- What a making answers, in one form: a number, and whether it is one. -/
def RForm (w:World) (N D:Int) (e:Ending) (w':World):Prop:=
 Below w.heap.size w w'∧∃ b x1 n y1 x2 m y2 err,e=.returned (.tuple #[.agg #[.bool b,.slice x1 n y1,.slice x2 m y2],.int .i64 err]) ∧
  Hid ((err=8∧b=false∧x1=none∧n=0∧y1=0∧x2=none∧m=0∧y2=0∧Big N D)∨(err=0∧∃ ns ds,n=ns.length∧m=ds.length∧Own w.heap.size w' (.slice x1 n y1) ns∧Own w.heap.size w' (.slice x2 m y2) ds∧RightP b ns ds∧sg b (val ns)*D=N*val ds))
theorem RMakes.form {w w':World} {N D:Int} {e:Ending} (h:RMakes w N D e w'):RForm w N D e w':=by
 obtain ⟨hb,⟨rfl,hbig⟩ | ⟨b,ns,ds,x1,y1,x2,y2,rfl,on,od,hr,hv⟩⟩:=h
 · exact ⟨hb,false,none,0,0,none,0,0,8,rfl,Or.inl ⟨rfl,rfl,rfl,rfl,rfl,rfl,rfl,rfl,hbig⟩⟩
 · exact ⟨hb,b,x1,ns.length,y1,x2,ds.length,y2,0,rfl,Or.inr ⟨rfl,ns,ds,rfl,rfl,on,od,hr,hv⟩⟩
theorem hform_mono {w2:World} {k j:Nat} {N D err:Int} {b:Bool} {x1 x2:Option Addr} {n m y1 y2:Nat} (hk:j≤k) (h:Hid ((err=8∧b=false∧x1=none∧n=0∧y1=0∧x2=none∧m=0∧y2=0∧Big N D)∨(err=0∧∃ ns ds,n=ns.length∧m=ds.length∧Own k w2 (.slice x1 n y1) ns∧Own k w2 (.slice x2 m y2) ds∧RightP b ns ds∧sg b (val ns)*D=N*val ds))) :
    Hid ((err=8∧b=false∧x1=none∧n=0∧y1=0∧x2=none∧m=0∧y2=0∧Big N D)∨(err=0∧∃ ns ds,n=ns.length∧m=ds.length∧Own j w2 (.slice x1 n y1) ns∧Own j w2 (.slice x2 m y2) ds∧RightP b ns ds∧sg b (val ns)*D=N*val ds)):=by
 rcases h.out with h | ⟨h1,ns,ds,h2,h3,on,od,h4⟩
 · exact Or.inl h
 · exact Or.inr ⟨h1,ns,ds,h2,h3,on.mono hk,od.mono hk,h4⟩
/-- Such an answer, laid into the variable of the result. -/
theorem rform_done {w wR w2:World} {N D:Int} {b:Bool} {x1 x2:Option Addr} {n m y1 y2 R:Nat} {err:Int} (b0:Below w.heap.size w wR) (hR:w.heap.size≤R) (s0:R<wR.heap.size) (hb:Below wR.heap.size wR w2)
    (h:Hid ((err=8∧b=false∧x1=none∧n=0∧y1=0∧x2=none∧m=0∧y2=0∧Big N D)∨(err=0∧∃ ns ds,n=ns.length∧m=ds.length∧Own wR.heap.size w2 (.slice x1 n y1) ns∧Own wR.heap.size w2 (.slice x2 m y2) ds∧RightP b ns ds∧sg b (val ns)*D=N*val ds))) :
    RMakes w N D (.returned (.tuple #[.agg #[.bool b,.slice x1 n y1,.slice x2 m y2],.int .i64 err])) (((w2.setCell ⟨R,0,none⟩ (.bool b)).setCell ⟨R,1,none⟩ (.slice x1 n y1)).setCell ⟨R,2,none⟩ (.slice x2 m y2)):=by
 refine ⟨Below.set3 (b0.trans (hb.mono (by omega))) hR _ _ _,?_⟩;rcases h.out with ⟨rfl,rfl,rfl,rfl,rfl,rfl,rfl,rfl,hbig⟩ | ⟨rfl,ns,ds,rfl,rfl,on,od,hr,hv⟩
 · exact Or.inl ⟨rfl,hbig⟩
 · exact Or.inr ⟨b,ns,ds,x1,y1,x2,y2,rfl,(Own.set3 on s0 _ _ _).mono (by omega),(Own.set3 od s0 _ _ _).mono (by omega),hr,hv⟩
section
variable {B:Nat} {w:World} {bx cy:Bool} {a1 a2 a3 a4:Option Addr} {c1 c2 c3 c4:Nat} {xn xd yn yd:List Int}
theorem times_rat (h1:Rd B w (.slice a1 xn.length c1) xn) (h2:Rd B w (.slice a2 xd.length c2) xd) (h3:Rd B w (.slice a3 yn.length c3) yn) (h4:Rd B w (.slice a4 yd.length c4) yd) (hB:B≤w.heap.size) (hx:RightP bx xn xd) (hy:RightP cy yn yd) :
    Calls Tryz.prog 147 #[.agg #[.bool bx,.slice a1 xn.length c1,.slice a2 xd.length c2],.agg #[.bool cy,.slice a3 yn.length c3,.slice a4 yd.length c4]] w fun e w'=>RMakes w (sg bx (val xn)*sg cy (val yn)) (val xd*val yd) e w':=by
 have px:=right_pos hx;have py:=right_pos hy;have l1:=hx.1;have l2:=hx.2.1;have l3:=hy.1;have l4:=hy.2.1;have HD:Hid (0<val xd*val yd):=Int.mul_pos px.1 py.1;clear px py hx hy;have hbX:Box3 (((w.alloc (.cells #[.bool bx,.slice a1 xn.length c1,.slice a2 xd.length c2] 24)).alloc (.cells #[.bool cy,.slice a3 yn.length c3,.slice a4 yd.length c4] 24)).alloc (.cells #[.bool false,.slice none 0 0,.slice none 0 0] 24)) w.heap.size 24 (.bool bx) (.slice a1 xn.length c1) (.slice a2 xd.length c2):=((box3_new w _ _ _ _).below (below_alloc _ _) (by simp)).below (below_alloc _ _) (by simp;omega);have hbY:Box3 (((w.alloc (.cells #[.bool bx,.slice a1 xn.length c1,.slice a2 xd.length c2] 24)).alloc (.cells #[.bool cy,.slice a3 yn.length c3,.slice a4 yd.length c4] 24)).alloc (.cells #[.bool false,.slice none 0 0,.slice none 0 0] 24)) (w.heap.size+1) 24 (.bool cy) (.slice a3 yn.length c3) (.slice a4 yd.length c4):=by
  have h5:=(box3_new (w.alloc (.cells #[.bool bx,.slice a1 xn.length c1,.slice a2 xd.length c2] 24)) (.bool cy) (.slice a3 yn.length c3) (.slice a4 yd.length c4) 24).below (below_alloc _ (.cells #[.bool false,.slice none 0 0,.slice none 0 0] 24)) (by simp);simpa using h5
 have hbR:Box3 (((w.alloc (.cells #[.bool bx,.slice a1 xn.length c1,.slice a2 xd.length c2] 24)).alloc (.cells #[.bool cy,.slice a3 yn.length c3,.slice a4 yd.length c4] 24)).alloc (.cells #[.bool false,.slice none 0 0,.slice none 0 0] 24)) (w.heap.size+1+1) 24 (.bool false) (.slice none 0 0) (.slice none 0 0):=by
  have h5:=box3_new ((w.alloc (.cells #[.bool bx,.slice a1 xn.length c1,.slice a2 xd.length c2] 24)).alloc (.cells #[.bool cy,.slice a3 yn.length c3,.slice a4 yd.length c4] 24)) (.bool false) (.slice none 0 0) (.slice none 0 0) 24;simpa using h5
 have b0:Below w.heap.size w (((w.alloc (.cells #[.bool bx,.slice a1 xn.length c1,.slice a2 xd.length c2] 24)).alloc (.cells #[.bool cy,.slice a3 yn.length c3,.slice a4 yd.length c4] 24)).alloc (.cells #[.bool false,.slice none 0 0,.slice none 0 0] 24)):=((below_alloc w _).alloc (by simp) _).alloc (by simp;omega) _;have s0:w.heap.size+1+1<(((w.alloc (.cells #[.bool bx,.slice a1 xn.length c1,.slice a2 xd.length c2] 24)).alloc (.cells #[.bool cy,.slice a3 yn.length c3,.slice a4 yd.length c4] 24)).alloc (.cells #[.bool false,.slice none 0 0,.slice none 0 0] 24)).heap.size:=by simp
 have g1:=h1.below (b0.mono hB);have g2:=h2.below (b0.mono hB);have g3:=h3.below (b0.mono hB);have g4:=h4.below (b0.mono hB);clear h1 h2 h3 h4;go_enter Tryz.func147,Tryz.ntmps147;go_wp2
 generalize hA:(((w.alloc (.cells #[.bool bx,.slice a1 xn.length c1,.slice a2 xd.length c2] 24)).alloc (.cells #[.bool cy,.slice a3 yn.length c3,.slice a4 yd.length c4] 24)).alloc (.cells #[.bool false,.slice none 0 0,.slice none 0 0] 24))=wP at *;clear hA;have hcells:∀ {w':World},Below wP.heap.size wP w'→w'.cell? ⟨w.heap.size,0,none⟩=some (.bool bx)∧w'.cell? ⟨w.heap.size,1,none⟩=some (.slice a1 xn.length c1)∧w'.cell? ⟨w.heap.size,2,none⟩=some (.slice a2 xd.length c2)∧w'.cell? ⟨w.heap.size+1,0,none⟩=some (.bool cy)∧w'.cell? ⟨w.heap.size+1,1,none⟩=some (.slice a3 yn.length c3)∧w'.cell? ⟨w.heap.size+1,2,none⟩=some (.slice a4 yd.length c4):=fun hb=>⟨(hbX.below hb (by omega)).c0,(hbX.below hb (by omega)).c1,(hbX.below hb (by omega)).c2,(hbY.below hb (by omega)).c0,(hbY.below hb (by omega)).c1,(hbY.below hb (by omega)).c2⟩;obtain ⟨k0,k1,k2,k3,k4,k5⟩:=hcells (Below.refl _ _);have d1:Rd B wP.drew (.slice a1 xn.length c1) xn:=g1;have d2:Rd B wP.drew (.slice a2 xd.length c2) xd:=g2;have d3:Rd B wP.drew (.slice a3 yn.length c3) yn:=g3;have d4:Rd B wP.drew (.slice a4 yd.length c4) yd:=g4;have hBP:B≤wP.drew.heap.size:=show B≤wP.heap.size by omega
 have hmA1:=many2 d1 d3 hBP hBP;have hmD2:=many2 d2 d4 hBP hBP;have hmB1:=hmA1.grow (below_alloc _ (.cells #[.slice a2 xd.length c2,.slice a4 yd.length c4] 22));have hmB2:Many ((wP.drew.alloc (.cells #[.slice a1 xn.length c1,.slice a3 yn.length c3] 22)).alloc (.cells #[.slice a2 xd.length c2,.slice a4 yd.length c4] 22)) (wP.heap.size+1) 2 [.slice a2 xd.length c2,.slice a4 yd.length c4] [xd,yd]:=by
  have h:=many2 (d2.below ((below_alloc wP.drew (.cells #[.slice a1 xn.length c1,.slice a3 yn.length c3] 22)).mono hBP)) (d4.below ((below_alloc wP.drew (.cells #[.slice a1 xn.length c1,.slice a3 yn.length c3] 22)).mono hBP)) (B1:=B) (B2:=B) (by simp;exact Nat.le_succ_of_le hBP) (by simp;exact Nat.le_succ_of_le hBP);simp only [World.size_alloc,World.size_drew] at h;exact h
 have hmC1:Many ((wP.drew.alloc (.cells #[.slice a2 xd.length c2,.slice a4 yd.length c4] 22)).alloc (.cells #[.slice a1 xn.length c1,.slice a3 yn.length c3] 22)) (wP.heap.size+1) 2 [.slice a1 xn.length c1,.slice a3 yn.length c3] [xn,yn]:=by
  have h:=many2 (d1.below ((below_alloc wP.drew (.cells #[.slice a2 xd.length c2,.slice a4 yd.length c4] 22)).mono hBP)) (d3.below ((below_alloc wP.drew (.cells #[.slice a2 xd.length c2,.slice a4 yd.length c4] 22)).mono hBP)) (B1:=B) (B2:=B) (by simp;exact Nat.le_succ_of_le hBP) (by simp;exact Nat.le_succ_of_le hBP);simp only [World.size_alloc,World.size_drew] at h;exact h
 have hmC2:=hmD2.grow (below_alloc _ (.cells #[.slice a1 xn.length c1,.slice a3 yn.length c3] 22));have hsP:wP.heap.size≤wP.heap.size:=Nat.le_refl _
 go_region_held3 (fun w'=>w'.cell? ⟨w.heap.size,0,none⟩=some (.bool bx)∧w'.cell? ⟨w.heap.size,1,none⟩=some (.slice a1 xn.length c1)∧w'.cell? ⟨w.heap.size,2,none⟩=some (.slice a2 xd.length c2)∧w'.cell? ⟨w.heap.size+1,0,none⟩=some (.bool cy)∧w'.cell? ⟨w.heap.size+1,1,none⟩=some (.slice a3 yn.length c3)∧w'.cell? ⟨w.heap.size+1,2,none⟩=some (.slice a4 yd.length c4))
  (first | (go_keep;done) | exact tw | exact tw2 | exact hcells (Below.alloc ba sa _) | (dsimp only;refine ⟨?_,?_,?_,?_,?_,?_⟩ <;> first | (go_keep;done) | exact (hX2.other (by omega) _ _ _).c0 | exact (hX2.other (by omega) _ _ _).c1 | exact (hX2.other (by omega) _ _ _).c2 | exact (hY2.other (by omega) _ _ _).c0 | exact (hY2.other (by omega) _ _ _).c1 | exact (hY2.other (by omega) _ _ _).c2) | exact ⟨(hX2.other (by omega) _ _ _).c0,(hX2.other (by omega) _ _ _).c1,(hX2.other (by omega) _ _ _).c2,(hY2.other (by omega) _ _ _).c0,(hY2.other (by omega) _ _ _).c1,(hY2.other (by omega) _ _ _).c2⟩)
  (first
   | (go_at_call 120;refine (prod_at (v1:=.slice a1 xn.length c1) (v2:=.slice a3 yn.length c3) (x1:=xn) (x2:=yn) (by first | exact hmA1 | exact hmB1 | exact hmC1) (by omega) (by omega)).mono ?_;rintro e wa ⟨za,ca,va,la,hma⟩;first | (obtain ⟨aa,qa,rfl,oa,ba⟩:=Makes.undrew (Makes.alloc (w:=wP.drew) (o:=(.cells #[.slice a1 xn.length c1,.slice a3 yn.length c3] 22)) hma);have sa:=ba.size;have tw:=hcells ba;have hm2:=many2 (g2.below (ba.mono (by omega))) (g4.below (ba.mono (by omega))) (B1:=B) (B2:=B) (by omega) (by omega)) | (obtain ⟨aa,qa,rfl,oa',ba'⟩:=hma;have hm2:=hmB2.grow ba';obtain ⟨aa2,qa2,he2,oa,ba⟩:=Makes.undrew (Makes.alloc (w:=wP.drew) (Makes.alloc (w:=wP.drew.alloc (.cells #[.slice a1 xn.length c1,.slice a3 yn.length c3] 22)) (⟨aa,qa,rfl,oa',ba'⟩:Makes _ _ wa za)));cases he2;have sa:=ba.size;have tw:=hcells ba) | (obtain ⟨aa,qa,rfl,oa',ba'⟩:=hma;have hm2:=hmC2.grow ba';obtain ⟨aa2,qa2,he2,oa,ba⟩:=Makes.undrew (Makes.alloc (w:=wP.drew) (Makes.alloc (w:=wP.drew.alloc (.cells #[.slice a2 xd.length c2,.slice a4 yd.length c4] 22)) (⟨aa,qa,rfl,oa',ba'⟩:Makes _ _ wa za)));cases he2;have sa:=ba.size;have tw:=hcells ba))
   | (go_at_call 120;refine (prod_at (v1:=.slice a2 xd.length c2) (v2:=.slice a4 yd.length c4) (x1:=xd) (x2:=yd) (by exact hm2) (by omega) (by omega)).mono ?_;rintro e wb ⟨zb,cb,vb,lb,hmb⟩;first | (obtain ⟨ab,qb,rfl,ob,bb⟩:=Makes.alloc (w:=wa) (o:=(.cells #[.slice a2 xd.length c2,.slice a4 yd.length c4] 22)) hmb;have sb:=bb.size;have tw2:=hcells (ba.trans (bb.mono sa))) | (obtain ⟨ab,qb,rfl,ob,bb⟩:=hmb;have sb:=bb.size;have tw2:=hcells (ba.trans (bb.mono sa))))
   | (go_at_call 175;refine (make_any (bx != cy) (sg bx (val xn)*sg cy (val yn)) (oa.below bb (Nat.le_refl _)).rd (Nat.le_refl _) ob.rd (Nat.le_refl _) (by omega) (by omega) (by rw [vb];exact HD.out) (by rw [va,sg_neq])).mono ?_;intro e w2 hmk;rw [vb] at hmk;obtain ⟨bm,b5,x5,n5,y5,x6,n6,y6,err,rfl,hform⟩:=hmk.form;have bPm:Below wP.heap.size wP w2:=(ba.trans (bb.mono sa)).trans (bm.mono (by omega));have tw3:=hcells bPm;have hX2:=hbX.below bPm (by omega);have hY2:=hbY.below bPm (by omega);have hR2:=hbR.below bPm s0;have q0:=hR2.c0;have q1:=hR2.c1;have q2:=hR2.c2;have p0:=hR2.f0;have p1:=hR2.f1;have p2:=hR2.f2))
 all_goals
  go_wp2
  have hR3:=hR2.set (.bool b5) (.slice x5 n5 y5) (.slice x6 n6 y6);have r0:=hR3.c0;have r1:=hR3.c1;have r2:=hR3.c2;refine bodyPost_ret (v:=.tuple #[.agg #[.bool b5,.slice x5 n5 y5,.slice x6 n6 y6],.int .i64 err]) (by simp [results,Tryz.results147,go_sem,r0,r1,r2]) rfl ?_;exact rform_done b0 (by omega) s0 bPm (hform_mono (by omega) hform)
end
/-- Two numbers lie in a list. -/
structure Two (w:World) (Lb:Nat) (x0 x1 x2 y0 y1 y2:Value):Prop where
 lt:Lb<w.heap.size
 k0:w.cell? ⟨Lb,0,none⟩=some x0
 k1:w.cell? ⟨Lb,1,none⟩=some x1
 k2:w.cell? ⟨Lb,2,none⟩=some x2
 k3:w.cell? ⟨Lb,3,none⟩=some y0
 k4:w.cell? ⟨Lb,4,none⟩=some y1
 k5:w.cell? ⟨Lb,5,none⟩=some y2
theorem Two.below {w w':World} {Lb:Nat} {x0 x1 x2 y0 y1 y2:Value} (h:Two w Lb x0 x1 x2 y0 y1 y2) (hb:Below w.heap.size w w'):Two w' Lb x0 x1 x2 y0 y1 y2:=
 ⟨Nat.lt_of_lt_of_le h.lt hb.size,(hb.cell (p:=⟨Lb,0,none⟩) h.lt).trans h.k0,(hb.cell (p:=⟨Lb,1,none⟩) h.lt).trans h.k1,(hb.cell (p:=⟨Lb,2,none⟩) h.lt).trans h.k2,(hb.cell (p:=⟨Lb,3,none⟩) h.lt).trans h.k3,(hb.cell (p:=⟨Lb,4,none⟩) h.lt).trans h.k4,(hb.cell (p:=⟨Lb,5,none⟩) h.lt).trans h.k5⟩
theorem two_new (w:World) (x0 x1 x2 y0 y1 y2:Value) (t:TypeId):Two (w.alloc (.cells #[x0,x1,x2,y0,y1,y2] t)) w.heap.size x0 x1 x2 y0 y1 y2:=
 ⟨by simp,by simp,by simp,by simp,by simp,by simp,by simp⟩
section
variable {B Lb:Nat} {w:World} {bx cy:Bool} {a1 a2 a3 a4:Option Addr} {c1 c2 c3 c4:Nat} {xn xd yn yd:List Int}
theorem allRight2 (hT:Two w Lb (.bool bx) (.slice a1 xn.length c1) (.slice a2 xd.length c2) (.bool cy) (.slice a3 yn.length c3) (.slice a4 yd.length c4)) (h1:Rd B w (.slice a1 xn.length c1) xn) (h2:Rd B w (.slice a2 xd.length c2) xd) (h3:Rd B w (.slice a3 yn.length c3) yn) (h4:Rd B w (.slice a4 yd.length c4) yd) (hB:B≤w.heap.size) :
    Calls Tryz.prog 142 #[.slice (some ⟨Lb,0,none⟩) 2 2] w fun e w'=>TellsP (RightP bx xn xd∧RightP cy yn yd) e∧Below w.heap.size w w':=by
 have hT0:=hT;obtain ⟨lt,k0,k1,k2,k3,k4,k5⟩:=hT;go_enter Tryz.func142,Tryz.ntmps142;go_wp2
 refine wp_loop_rounds 3 ?_;rw [rounds_succ]
 go_wp2_with fail
 have e0:=below_alloc w (.cells #[.bool bx,.slice a1 xn.length c1,.slice a2 xd.length c2] 24);have z0:w.heap.size<(w.alloc (.cells #[.bool bx,.slice a1 xn.length c1,.slice a2 xd.length c2] 24)).heap.size:=by simp
 refine (right_rat (h1.below (e0.mono hB)) (h2.below (e0.mono hB)) (by omega)).mono ?_;rintro e wa ⟨⟨r,rfl,hr⟩,ba⟩;have b1:Below w.heap.size w wa:=e0.trans (ba.mono (by omega));have s1:=b1.size;clear e0 z0 ba
 cases r with
 | false=>
  have HX:Hid (¬ RightP bx xn xd):=fun h=>by have:=hr.2 h;cases this
  clear hr;go_wp2
  go_ret
  exact ⟨TellsP.no (fun h=>HX.out h.1),b1⟩
 | true=>
  have HX:Hid (RightP bx xn xd):=hr.1 rfl;clear hr;have hT1:=hT0.below b1;obtain ⟨lt',m0,m1,m2,m3,m4,m5⟩:=hT1;have f3:=h3.below (b1.mono hB);have f4:=h4.below (b1.mono hB);clear hT0 k0 k1 k2 k3 k4 k5;go_wp2
  rw [rounds_succ]
  go_wp2_with fail
  have e0:=below_alloc wa (.cells #[.bool cy,.slice a3 yn.length c3,.slice a4 yd.length c4] 24);have z0:wa.heap.size<(wa.alloc (.cells #[.bool cy,.slice a3 yn.length c3,.slice a4 yd.length c4] 24)).heap.size:=by simp
  refine (right_rat (f3.below (e0.mono (by omega))) (f4.below (e0.mono (by omega))) (by omega)).mono ?_;rintro e wb ⟨⟨r,rfl,hr⟩,bb⟩;have b2:Below w.heap.size w wb:=b1.trans ((e0.trans (bb.mono (by omega))).mono s1);clear e0 z0 bb
  cases r with
  | false=>
   have HY:Hid (¬ RightP cy yn yd):=fun h=>by have:=hr.2 h;cases this
   clear hr;go_wp2
   go_ret
   exact ⟨TellsP.no (fun h=>HY.out h.2),b2⟩
  | true=>
   have HY:Hid (RightP cy yn yd):=hr.1 rfl;clear hr;go_wp2
   rw [rounds_succ];go_wp2
   go_ret
   exact ⟨TellsP.yes ⟨HX.out,HY.out⟩,b2⟩
end
theorem withSign_rat {B:Nat} {w:World} {b b0:Bool} {a1 a2:Option Addr} {c1 c2:Nat} {ns ds:List Int} (h1:Rd B w (.slice a1 ns.length c1) ns) (h2:Rd B w (.slice a2 ds.length c2) ds) (hB:B≤w.heap.size) (hr:RightP b0 ns ds) :
    Calls Tryz.prog 112 #[.bool b,.agg #[.bool b0,.slice a1 ns.length c1,.slice a2 ds.length c2]] w fun e w'=>Below w.heap.size w w'∧∃ x1 y1 x2 y2,e=.returned (.tuple #[.agg #[.bool (b && decide (0<ns.length)),.slice x1 ns.length y1,.slice x2 ds.length y2],.int .i64 0])∧Own w.heap.size w' (.slice x1 ns.length y1) ns∧Own w.heap.size w' (.slice x2 ds.length y2) ds:=by
 have t1:Hid (tr ns=ns):=can_inj (tr_can h1.lim) hr.2.2.1 (val_tr ns);have t2:Hid (tr ds=ds):=can_inj (tr_can h2.lim) hr.2.2.2.1 (val_tr ds);have q1':=hr.1;have q2':=hr.2.1;clear hr;have hbX:Box3 ((w.alloc (.cells #[.bool b0,.slice a1 ns.length c1,.slice a2 ds.length c2] 24)).alloc (.cells #[.bool false,.slice none 0 0,.slice none 0 0] 24)) w.heap.size 24 (.bool b0) (.slice a1 ns.length c1) (.slice a2 ds.length c2):=(box3_new w _ _ _ _).below (below_alloc _ _) (by simp);have hbR:Box3 ((w.alloc (.cells #[.bool b0,.slice a1 ns.length c1,.slice a2 ds.length c2] 24)).alloc (.cells #[.bool false,.slice none 0 0,.slice none 0 0] 24)) (w.heap.size+1) 24 (.bool false) (.slice none 0 0) (.slice none 0 0):=by
  have h5:=box3_new (w.alloc (.cells #[.bool b0,.slice a1 ns.length c1,.slice a2 ds.length c2] 24)) (.bool false) (.slice none 0 0) (.slice none 0 0) 24;simpa using h5
 have b0':Below w.heap.size w ((w.alloc (.cells #[.bool b0,.slice a1 ns.length c1,.slice a2 ds.length c2] 24)).alloc (.cells #[.bool false,.slice none 0 0,.slice none 0 0] 24)):=(below_alloc w _).alloc (by simp) _;have s0:w.heap.size+1<((w.alloc (.cells #[.bool b0,.slice a1 ns.length c1,.slice a2 ds.length c2] 24)).alloc (.cells #[.bool false,.slice none 0 0,.slice none 0 0] 24)).heap.size:=by simp
 have g1:=h1.below (b0'.mono hB);have g2:=h2.below (b0'.mono hB);clear h1 h2;go_enter Tryz.func112,Tryz.ntmps112;go_wp2
 generalize hA:((w.alloc (.cells #[.bool b0,.slice a1 ns.length c1,.slice a2 ds.length c2] 24)).alloc (.cells #[.bool false,.slice none 0 0,.slice none 0 0] 24))=wP at *;clear hA;have hcells:∀ {w':World},Below wP.heap.size wP w'→w'.cell? ⟨w.heap.size,0,none⟩=some (.bool b0)∧w'.cell? ⟨w.heap.size,1,none⟩=some (.slice a1 ns.length c1)∧w'.cell? ⟨w.heap.size,2,none⟩=some (.slice a2 ds.length c2):=fun hb=>⟨(hbX.below hb (by omega)).c0,(hbX.below hb (by omega)).c1,(hbX.below hb (by omega)).c2⟩;obtain ⟨k0,k1,k2⟩:=hcells (Below.refl _ _);have d1:Rd B wP.drew (.slice a1 ns.length c1) ns:=g1
 go_region_held3 (fun w'=>w'.cell? ⟨w.heap.size,0,none⟩=some (.bool b0)∧w'.cell? ⟨w.heap.size,1,none⟩=some (.slice a1 ns.length c1)∧w'.cell? ⟨w.heap.size,2,none⟩=some (.slice a2 ds.length c2))
  (first | (go_keep;done) | exact tw | exact tw2 | exact tw3 | exact ⟨(hX2.other (by omega) _ _ _).c0,(hX2.other (by omega) _ _ _).c1,(hX2.other (by omega) _ _ _).c2⟩)
  (first
   | (go_at_call_of 125 (Value.slice a1 ns.length c1);refine (trim_rd d1 (by omega)).mono ?_;intro e wa hm;rw [t1.out] at hm;obtain ⟨x1,y1,rfl,o1,ba⟩:=Makes.undrew hm;have sa:=ba.size;have tw:=hcells ba;have e2:=g2.below (ba.mono (by omega)))
   | (go_at_call_of 125 (Value.slice a2 ds.length c2);refine (trim_rd e2 (by omega)).mono ?_;intro e wb hm;rw [t2.out] at hm;obtain ⟨x2,y2,rfl,o2,bb⟩:=hm;have bPb:=ba.trans (bb.mono sa);have tw2:=hcells bPb)
   | (go_at_call 121;refine (limited_ok b x1 x2 ns.length y1 ds.length y2 wb q1' q2').mono ?_;rintro e wc ⟨rfl,bc⟩;have bPc:Below wP.heap.size wP wc:=bPb.trans (bc.mono bPb.size);have tw3:=hcells bPc;have hX2:=hbX.below bPc (by omega);have hR2:=hbR.below bPc s0;have q0:=hR2.c0;have q1:=hR2.c1;have q2:=hR2.c2;have p0:=hR2.f0;have p1:=hR2.f1;have p2:=hR2.f2))
 all_goals
  have o1c:Own wP.heap.size wc (.slice x1 ns.length y1) ns:=((o1.below bb (Nat.le_refl _)).below bc (Nat.le_refl _));have o2c:Own wP.heap.size wc (.slice x2 ds.length y2) ds:=(o2.below bc (Nat.le_refl _)).mono sa;go_wp2
  have hR3:=hR2.set (.bool (b && decide (0<ns.length))) (.slice x1 ns.length y1) (.slice x2 ds.length y2);have r0:=hR3.c0;have r1:=hR3.c1;have r2:=hR3.c2;refine bodyPost_ret (v:=.tuple #[.agg #[.bool (b && decide (0<ns.length)),.slice x1 ns.length y1,.slice x2 ds.length y2],.int .i64 0]) (by simp [results,Tryz.results112,go_sem,r0,r1,r2]) rfl ?_;exact ⟨Below.set3 (b0'.trans (bPc.mono (by omega))) (by omega) _ _ _,x1,y1,x2,y2,rfl,(Own.set3 o1c s0 _ _ _).mono (by omega),(Own.set3 o2c s0 _ _ _).mono (by omega)⟩
/-- What a reckoning with two numbers answers: where P does not hold, ErrForm; else it is too great, or a right number that is N by D. -/
def Out (w':World) (k:Nat) (P:Prop) (N D:Int) (b:Bool) (x1:Option Addr) (n y1:Nat) (x2:Option Addr) (m y2:Nat) (err:Int):Prop:=
 (¬ P∧err=22∧b=false∧x1=none∧n=0∧y1=0∧x2=none∧m=0∧y2=0)∨(P∧err=8∧b=false∧x1=none∧n=0∧y1=0∧x2=none∧m=0∧y2=0∧Big N D) ∨
  (P∧err=0∧∃ ns ds,n=ns.length∧m=ds.length∧Own k w' (.slice x1 n y1) ns∧Own k w' (.slice x2 m y2) ds∧RightP b ns ds∧sg b (val ns)*D=N*val ds)
def Gives (w:World) (P:Prop) (N D:Int) (e:Ending) (w':World):Prop:=
 Below w.heap.size w w'∧∃ b x1 n y1 x2 m y2 err,e=.returned (.tuple #[.agg #[.bool b,.slice x1 n y1,.slice x2 m y2],.int .i64 err])∧Hid (Out w' w.heap.size P N D b x1 n y1 x2 m y2 err)
theorem Out.turn {w1 w2:World} {k j:Nat} {P:Prop} {N D err:Int} {b:Bool} {x1 x2:Option Addr} {n m y1 y2:Nat} (h:Out w1 k P N D b x1 n y1 x2 m y2 err) (hO:∀ v xs,Own k w1 v xs→Own j w2 v xs):Out w2 j P N D b x1 n y1 x2 m y2 err:=by
 rcases h with h | h | ⟨hp,he,ns,ds,h2,h3,on,od,h4⟩
 · exact Or.inl h
 · exact Or.inr (Or.inl h)
 · exact Or.inr (Or.inr ⟨hp,he,ns,ds,h2,h3,hO _ _ on,hO _ _ od,h4⟩)
section
variable {B Lb:Nat} {w:World} {bx cy:Bool} {a1 a2 a3 a4:Option Addr} {c1 c2 c3 c4:Nat} {xn xd yn yd:List Int}
theorem fold2T (N D:Int) (o0:Value) (o1 o2:Option Addr) (m1 m2 m3 m4:Nat) (ob:Bool)
    (hstep:∀ (w':World) (B':Nat) (x1 x2:Option Addr) (y1 y2:Nat),Rd B' w' (.slice x1 xn.length y1) xn→Rd B' w' (.slice x2 xd.length y2) xd→Rd B' w' (.slice a3 yn.length c3) yn→Rd B' w' (.slice a4 yd.length c4) yd→B'≤w'.heap.size→RightP bx xn xd→RightP cy yn yd →
     Calls Tryz.prog 147 #[.agg #[.bool bx,.slice x1 xn.length y1,.slice x2 xd.length y2],.agg #[.bool cy,.slice a3 yn.length c3,.slice a4 yd.length c4]] w' fun e w''=>RMakes w' N D e w'')
    (hT:Two w Lb (.bool bx) (.slice a1 xn.length c1) (.slice a2 xd.length c2) (.bool cy) (.slice a3 yn.length c3) (.slice a4 yd.length c4)) (h1:Rd B w (.slice a1 xn.length c1) xn) (h2:Rd B w (.slice a2 xd.length c2) xd) (h3:Rd B w (.slice a3 yn.length c3) yn) (h4:Rd B w (.slice a4 yd.length c4) yd) (hB:B≤w.heap.size) :
    Calls Tryz.prog 145 #[.agg #[.bool ob,.slice o1 m1 m2,.slice o2 m3 m4],.func (Fn.func 147) #[] #[],.slice (some ⟨Lb,0,none⟩) 2 2] w fun e w'=>Gives w (RightP bx xn xd∧RightP cy yn yd) N D e w':=by
 have hbR:Box3 ((w.alloc (.cells #[.bool ob,.slice o1 m1 m2,.slice o2 m3 m4] 24)).alloc (.cells #[.bool false,.slice none 0 0,.slice none 0 0] 24)) (w.heap.size+1) 24 (.bool false) (.slice none 0 0) (.slice none 0 0):=by
  have h5:=box3_new (w.alloc (.cells #[.bool ob,.slice o1 m1 m2,.slice o2 m3 m4] 24)) (.bool false) (.slice none 0 0) (.slice none 0 0) 24;simpa using h5
 have b0:Below w.heap.size w ((w.alloc (.cells #[.bool ob,.slice o1 m1 m2,.slice o2 m3 m4] 24)).alloc (.cells #[.bool false,.slice none 0 0,.slice none 0 0] 24)):=(below_alloc w _).alloc (by simp) _;have s0:w.heap.size+1<((w.alloc (.cells #[.bool ob,.slice o1 m1 m2,.slice o2 m3 m4] 24)).alloc (.cells #[.bool false,.slice none 0 0,.slice none 0 0] 24)).heap.size:=by simp
 have g1:=h1.below (b0.mono hB);have g2:=h2.below (b0.mono hB);have g3:=h3.below (b0.mono hB);have g4:=h4.below (b0.mono hB);have hTP:=hT.below b0;have hlt:=hT.lt;clear h1 h2 h3 h4 hT;go_enter Tryz.func145,Tryz.ntmps145
 go_wp2_with fail
 generalize hA:((w.alloc (.cells #[.bool ob,.slice o1 m1 m2,.slice o2 m3 m4] 24)).alloc (.cells #[.bool false,.slice none 0 0,.slice none 0 0] 24))=wP at *;clear hA;refine (allRight2 hTP g1 g2 g3 g4 (by omega)).mono ?_;rintro e wa ⟨⟨r,rfl,hr⟩,ba⟩;have sa:=ba.size;have hRa:=hbR.below ba s0
 cases r with
 | false=>
  have HP:Hid (¬ (RightP bx xn xd∧RightP cy yn yd)):=fun h=>by have:=hr.2 h;cases this
  clear hr;have q0:=hRa.c0;have q1:=hRa.c1;have q2:=hRa.c2;have p0:=hRa.f0;have p1:=hRa.f1;have p2:=hRa.f2;go_wp2
  have hR3:=hRa.set (.bool false) (.slice none 0 0) (.slice none 0 0);have r0:=hR3.c0;have r1:=hR3.c1;have r2:=hR3.c2;refine bodyPost_ret (v:=.tuple #[.agg #[.bool false,.slice none 0 0,.slice none 0 0],.int .i64 22]) (by simp [results,Tryz.results145,go_sem,r0,r1,r2]) rfl ?_;exact ⟨Below.set3 (b0.trans (ba.mono (by omega))) (by omega) _ _ _,false,none,0,0,none,0,0,22,rfl,Or.inl ⟨HP.out,rfl,rfl,rfl,rfl,rfl,rfl,rfl,rfl⟩⟩
 | true=>
  have HP:Hid (RightP bx xn xd∧RightP cy yn yd):=hr.1 rfl;clear hr;have hTa:=hTP.below ba;obtain ⟨lt',m0',m1',m2',m3',m4',m5'⟩:=hTa;have f1:=g1.below (ba.mono (by omega));have f2:=g2.below (ba.mono (by omega));have f3:=g3.below (ba.mono (by omega));have f4:=g4.below (ba.mono (by omega));clear g1 g2 g3 g4 hTP;have HB:Hid ((bx && decide (0<xn.length))=bx):=by
   unfold Hid
   cases bx with
   | false=>rfl
   | true=>
    have h5:=HP.out.1.2.2.2.2.1;rw [decide_eq_true (by by_cases h6:xn.length=0;exact absurd ⟨rfl,h6⟩ h5;omega)];rfl
  have hne1:¬ wa.heap.size=Lb:=by omega
  have hne2:¬ Lb=wa.heap.size:=by omega
  have e1:Rd B wa.drew (.slice a1 xn.length c1) xn:=f1;have e2:Rd B wa.drew (.slice a2 xd.length c2) xd:=f2;have hBd:B≤wa.drew.heap.size:=show B≤wa.heap.size by omega
  have zI:=below_alloc wa.drew (.cells #[.bool false,.slice none 0 0,.slice none 0 0] 24);have i1:=e1.below (zI.mono hBd);have i2:=e2.below (zI.mono hBd);have hBI:B≤(wa.drew.alloc (.cells #[.bool false,.slice none 0 0,.slice none 0 0] 24)).heap.size:=Nat.le_trans hBd zI.size;have hbI:=box3_new wa.drew (.bool false) (.slice none 0 0) (.slice none 0 0) 24;have ltI:wa.drew.heap.size<(wa.drew.alloc (.cells #[.bool false,.slice none 0 0,.slice none 0 0] 24)).heap.size:=by simp
  have hTcells:∀ {w':World},Below wa.heap.size wa w'→w'.cell? ⟨Lb,0,none⟩=some (.bool bx)∧w'.cell? ⟨Lb,1,none⟩=some (.slice a1 xn.length c1)∧w'.cell? ⟨Lb,2,none⟩=some (.slice a2 xd.length c2):=fun hb=>⟨(hb.cell (p:=⟨Lb,0,none⟩) lt').trans m0',(hb.cell (p:=⟨Lb,1,none⟩) lt').trans m1',(hb.cell (p:=⟨Lb,2,none⟩) lt').trans m2'⟩;go_wp2
  go_region_held3 (fun w'=>w'.cell? ⟨Lb,0,none⟩=some (.bool bx)∧w'.cell? ⟨Lb,1,none⟩=some (.slice a1 xn.length c1)∧w'.cell? ⟨Lb,2,none⟩=some (.slice a2 xd.length c2))
   (first | (go_keep;done) | exact tw)
   ((go_at_call 112;refine (withSign_rat (by first | exact e1 | exact i1) (by first | exact e2 | exact i2) (by first | exact hBd | exact hBI) HP.out.1).mono ?_;rintro e wb ⟨bb,x1,y1,x2,y2,he,ox,od⟩;rw [HB.out] at he;subst he;first | (have hb8:Box3 wb wa.heap.size 24 (.bool false) (.slice none 0 0) (.slice none 0 0):=hbI.below bb ltI;have bab:Below wa.heap.size wa wb:=(Below.alloc (⟨rfl,rfl,rfl,Nat.le_refl _,fun _ _=>rfl⟩:Below wa.heap.size wa wa.drew) (Nat.le_refl _) _).trans (bb.mono (Nat.le_of_lt ltI));have oxa:Own wa.heap.size wb (.slice x1 xn.length y1) xn:=ox.mono (Nat.le_of_lt ltI);have oda:Own wa.heap.size wb (.slice x2 xd.length y2) xd:=od.mono (Nat.le_of_lt ltI);have q0:=hb8.c0;have q1:=hb8.c1;have q2:=hb8.c2;have p0:=hb8.f0;have p1:=hb8.f1;have p2:=hb8.f2;have tw:=hTcells bab) | (have bab:Below wa.heap.size wa wb:=⟨bb.os,bb.tape,bb.output,bb.size,bb.block⟩;have oxa:Own wa.heap.size wb (.slice x1 xn.length y1) xn:=ox;have oda:Own wa.heap.size wb (.slice x2 xd.length y2) xd:=od;have tw:=hTcells bab)))
  · have zb:=bab.size
    have hb8:=box3_new wb (.bool bx) (.slice x1 xn.length y1) (.slice x2 xd.length y2) 24;have ba8:Below wa.heap.size wa (wb.alloc (.cells #[.bool bx,.slice x1 xn.length y1,.slice x2 xd.length y2] 24)):=bab.alloc zb _;have ox8:=oxa.alloc (.cells #[.bool bx,.slice x1 xn.length y1,.slice x2 xd.length y2] 24);have od8:=oda.alloc (.cells #[.bool bx,.slice x1 xn.length y1,.slice x2 xd.length y2] 24);have lt8:wb.heap.size<(wb.alloc (.cells #[.bool bx,.slice x1 xn.length y1,.slice x2 xd.length y2] 24)).heap.size:=by simp
    have g8:wa.heap.size≤wb.heap.size:=zb;generalize hW8:(wb.alloc (.cells #[.bool bx,.slice x1 xn.length y1,.slice x2 xd.length y2] 24))=w8 at *;clear hW8;have z8:=ba8.size;have y3:=(ba8.cell (p:=⟨Lb,3,none⟩) lt').trans m3';have y4':=(ba8.cell (p:=⟨Lb,4,none⟩) lt').trans m4';have y5':=(ba8.cell (p:=⟨Lb,5,none⟩) lt').trans m5';have u3:=f3.below (ba8.mono (by omega));have u4:=f4.below (ba8.mono (by omega));have hR8:=hRa.below ba8 (by omega);have b9:=below_alloc w8 (.cells #[.bool cy,.slice a3 yn.length c3,.slice a4 yd.length c4] 24);have n0:=(b9.cell (p:=⟨wb.heap.size,0,none⟩) lt8).trans hb8.c0;have n1:=(b9.cell (p:=⟨wb.heap.size,1,none⟩) lt8).trans hb8.c1;have n2:=(b9.cell (p:=⟨wb.heap.size,2,none⟩) lt8).trans hb8.c2;have s9:=b9.size;clear m0' m1' m2' m3' m4' m5' e1 e2 i1 i2 f1 f2 f3 f4 tw hbI zI;go_wp2
    refine wp_loop_rounds 2 ?_;rw [rounds_succ]
    go_wp2_with fail
    refine (hstep _ (w8.alloc (.cells #[.bool cy,.slice a3 yn.length c3,.slice a4 yd.length c4] 24)).heap.size x1 x2 y1 y2 (ox8.alloc _).rd (od8.alloc _).rd ((u3.below (b9.mono (by omega))).mono (by omega)) ((u4.below (b9.mono (by omega))).mono (by omega)) (Nat.le_refl _) HP.out.1 HP.out.2).mono ?_;intro e w10 hm;obtain ⟨bm,b5,x5,n5,y5,x6,n6,y6,err,rfl,hform⟩:=hm.form;have bA:Below w8.heap.size w8 w10:=b9.trans (bm.mono s9);have h8':=hb8.below bA lt8;have hR10:=hR8.below bA (by omega);have q0:=h8'.c0;have q1:=h8'.c1;have q2:=h8'.c2;have p0:=h8'.f0;have p1:=h8'.f1;have p2:=h8'.f2;have bw10:Below w.heap.size w w10:=b0.trans ((ba.mono (by omega)).trans ((ba8.mono (by omega)).trans (bA.mono (by omega))));clear hm;rcases hform.out with ⟨rfl,rfl,rfl,rfl,rfl,rfl,rfl,rfl,hbig⟩ | ⟨rfl,ns,ds,rfl,rfl,on,od',hr,hv⟩
    · have HBG:Hid (Big N D):=hbig
      clear hbig hform;have hRs:=hR10.other (R:=wb.heap.size) (by omega) (.bool false) (.slice none 0 0) (.slice none 0 0);have j0:=hRs.c0;have j1:=hRs.c1;have j2:=hRs.c2;have l0:=hRs.f0;have l1:=hRs.f1;have l2:=hRs.f2;go_wp2
      have hR3:=hRs.set (.bool false) (.slice none 0 0) (.slice none 0 0);have r0:=hR3.c0;have r1:=hR3.c1;have r2:=hR3.c2;refine bodyPost_ret (v:=.tuple #[.agg #[.bool false,.slice none 0 0,.slice none 0 0],.int .i64 8]) (by simp [results,Tryz.results145,go_sem,r0,r1,r2]) rfl ?_;exact ⟨Below.set3 (Below.set3 bw10 (by omega) _ _ _) (by omega) _ _ _,false,none,0,0,none,0,0,8,rfl,Or.inr (Or.inl ⟨HP.out,rfl,rfl,rfl,rfl,rfl,rfl,rfl,rfl,HBG.out⟩)⟩
    · have HX:Hid (RightP b5 ns ds∧sg b5 (val ns)*D=N*val ds):=⟨hr,hv⟩
      clear hr hv hform;have hRs:=hR10.other (R:=wb.heap.size) (by omega) (.bool b5) (.slice x5 ns.length y5) (.slice x6 ds.length y6);have h8s:=h8'.set (.bool b5) (.slice x5 ns.length y5) (.slice x6 ds.length y6);have v0:=h8s.c0;have v1:=h8s.c1;have v2:=h8s.c2;have j0:=hRs.c0;have j1:=hRs.c1;have j2:=hRs.c2;have l0:=hRs.f0;have l1:=hRs.f1;have l2:=hRs.f2;go_wp2
      rw [rounds_succ];go_wp2
      have hR3:=hRs.set (.bool b5) (.slice x5 ns.length y5) (.slice x6 ds.length y6);have r0:=hR3.c0;have r1:=hR3.c1;have r2:=hR3.c2;refine bodyPost_ret (v:=.tuple #[.agg #[.bool b5,.slice x5 ns.length y5,.slice x6 ds.length y6],.int .i64 0]) (by simp [results,Tryz.results145,go_sem,r0,r1,r2]) rfl ?_;exact ⟨Below.set3 (Below.set3 bw10 (by omega) _ _ _) (by omega) _ _ _,b5,x5,ns.length,y5,x6,ds.length,y6,0,rfl,Or.inr (Or.inr ⟨HP.out,rfl,ns,ds,rfl,rfl,(Own.set3 (Own.set3 on (by omega) _ _ _) (by omega) _ _ _).mono (by omega),(Own.set3 (Own.set3 od' (by omega) _ _ _) (by omega) _ _ _).mono (by omega),HX.out.1,HX.out.2⟩)⟩
  · have hb8':=hb8
    replace hb8:=hb8'.set (.bool bx) (.slice x1 xn.length y1) (.slice x2 xd.length y2);have ba8:Below wa.heap.size wa (((wb.setCell ⟨wa.heap.size,0,none⟩ (.bool bx)).setCell ⟨wa.heap.size,1,none⟩ (.slice x1 xn.length y1)).setCell ⟨wa.heap.size,2,none⟩ (.slice x2 xd.length y2)):=Below.set3 bab (Nat.le_refl _) _ _ _;have ox8:Own wa.heap.size (((wb.setCell ⟨wa.heap.size,0,none⟩ (.bool bx)).setCell ⟨wa.heap.size,1,none⟩ (.slice x1 xn.length y1)).setCell ⟨wa.heap.size,2,none⟩ (.slice x2 xd.length y2)) (.slice x1 xn.length y1) xn:=(Own.set3 ox ltI _ _ _).mono (Nat.le_of_lt ltI);have od8:Own wa.heap.size (((wb.setCell ⟨wa.heap.size,0,none⟩ (.bool bx)).setCell ⟨wa.heap.size,1,none⟩ (.slice x1 xn.length y1)).setCell ⟨wa.heap.size,2,none⟩ (.slice x2 xd.length y2)) (.slice x2 xd.length y2) xd:=(Own.set3 od ltI _ _ _).mono (Nat.le_of_lt ltI);have lt8:wa.heap.size<(((wb.setCell ⟨wa.heap.size,0,none⟩ (.bool bx)).setCell ⟨wa.heap.size,1,none⟩ (.slice x1 xn.length y1)).setCell ⟨wa.heap.size,2,none⟩ (.slice x2 xd.length y2)).heap.size:=by
     have h5:wa.heap.size<wb.heap.size:=Nat.lt_of_lt_of_le ltI bb.size;simpa using h5
    have g8:wa.heap.size≤wa.heap.size:=Nat.le_refl _;clear hb8' q0 q1 q2 p0 p1 p2;generalize hW8:(((wb.setCell ⟨wa.heap.size,0,none⟩ (.bool bx)).setCell ⟨wa.heap.size,1,none⟩ (.slice x1 xn.length y1)).setCell ⟨wa.heap.size,2,none⟩ (.slice x2 xd.length y2))=w8 at *;clear hW8;have z8:=ba8.size;have y3:=(ba8.cell (p:=⟨Lb,3,none⟩) lt').trans m3';have y4':=(ba8.cell (p:=⟨Lb,4,none⟩) lt').trans m4';have y5':=(ba8.cell (p:=⟨Lb,5,none⟩) lt').trans m5';have u3:=f3.below (ba8.mono (by omega));have u4:=f4.below (ba8.mono (by omega));have hR8:=hRa.below ba8 (by omega);have b9:=below_alloc w8 (.cells #[.bool cy,.slice a3 yn.length c3,.slice a4 yd.length c4] 24);have n0:=(b9.cell (p:=⟨wa.heap.size,0,none⟩) lt8).trans hb8.c0;have n1:=(b9.cell (p:=⟨wa.heap.size,1,none⟩) lt8).trans hb8.c1;have n2:=(b9.cell (p:=⟨wa.heap.size,2,none⟩) lt8).trans hb8.c2;have s9:=b9.size;clear m0' m1' m2' m3' m4' m5' e1 e2 i1 i2 f1 f2 f3 f4 tw hbI zI;go_wp2
    refine wp_loop_rounds 2 ?_;rw [rounds_succ]
    go_wp2_with fail
    refine (hstep _ (w8.alloc (.cells #[.bool cy,.slice a3 yn.length c3,.slice a4 yd.length c4] 24)).heap.size x1 x2 y1 y2 (ox8.alloc _).rd (od8.alloc _).rd ((u3.below (b9.mono (by omega))).mono (by omega)) ((u4.below (b9.mono (by omega))).mono (by omega)) (Nat.le_refl _) HP.out.1 HP.out.2).mono ?_;intro e w10 hm;obtain ⟨bm,b5,x5,n5,y5,x6,n6,y6,err,rfl,hform⟩:=hm.form;have bA:Below w8.heap.size w8 w10:=b9.trans (bm.mono s9);have h8':=hb8.below bA lt8;have hR10:=hR8.below bA (by omega);have q0:=h8'.c0;have q1:=h8'.c1;have q2:=h8'.c2;have p0:=h8'.f0;have p1:=h8'.f1;have p2:=h8'.f2;have bw10:Below w.heap.size w w10:=b0.trans ((ba.mono (by omega)).trans ((ba8.mono (by omega)).trans (bA.mono (by omega))));clear hm;rcases hform.out with ⟨rfl,rfl,rfl,rfl,rfl,rfl,rfl,rfl,hbig⟩ | ⟨rfl,ns,ds,rfl,rfl,on,od',hr,hv⟩
    · have HBG:Hid (Big N D):=hbig
      clear hbig hform;have hRs:=hR10.other (R:=wa.heap.size) (by omega) (.bool false) (.slice none 0 0) (.slice none 0 0);have j0:=hRs.c0;have j1:=hRs.c1;have j2:=hRs.c2;have l0:=hRs.f0;have l1:=hRs.f1;have l2:=hRs.f2;go_wp2
      have hR3:=hRs.set (.bool false) (.slice none 0 0) (.slice none 0 0);have r0:=hR3.c0;have r1:=hR3.c1;have r2:=hR3.c2;refine bodyPost_ret (v:=.tuple #[.agg #[.bool false,.slice none 0 0,.slice none 0 0],.int .i64 8]) (by simp [results,Tryz.results145,go_sem,r0,r1,r2]) rfl ?_;exact ⟨Below.set3 (Below.set3 bw10 (by omega) _ _ _) (by omega) _ _ _,false,none,0,0,none,0,0,8,rfl,Or.inr (Or.inl ⟨HP.out,rfl,rfl,rfl,rfl,rfl,rfl,rfl,rfl,HBG.out⟩)⟩
    · have HX:Hid (RightP b5 ns ds∧sg b5 (val ns)*D=N*val ds):=⟨hr,hv⟩
      clear hr hv hform;have hRs:=hR10.other (R:=wa.heap.size) (by omega) (.bool b5) (.slice x5 ns.length y5) (.slice x6 ds.length y6);have h8s:=h8'.set (.bool b5) (.slice x5 ns.length y5) (.slice x6 ds.length y6);have v0:=h8s.c0;have v1:=h8s.c1;have v2:=h8s.c2;have j0:=hRs.c0;have j1:=hRs.c1;have j2:=hRs.c2;have l0:=hRs.f0;have l1:=hRs.f1;have l2:=hRs.f2;go_wp2
      rw [rounds_succ];go_wp2
      have hR3:=hRs.set (.bool b5) (.slice x5 ns.length y5) (.slice x6 ds.length y6);have r0:=hR3.c0;have r1:=hR3.c1;have r2:=hR3.c2;refine bodyPost_ret (v:=.tuple #[.agg #[.bool b5,.slice x5 ns.length y5,.slice x6 ds.length y6],.int .i64 0]) (by simp [results,Tryz.results145,go_sem,r0,r1,r2]) rfl ?_;exact ⟨Below.set3 (Below.set3 bw10 (by omega) _ _ _) (by omega) _ _ _,b5,x5,ns.length,y5,x6,ds.length,y6,0,rfl,Or.inr (Or.inr ⟨HP.out,rfl,ns,ds,rfl,rfl,(Own.set3 (Own.set3 on (by omega) _ _ _) (by omega) _ _ _).mono (by omega),(Own.set3 (Own.set3 od' (by omega) _ _ _) (by omega) _ _ _).mono (by omega),HX.out.1,HX.out.2⟩)⟩
end
end Go.Proofs.YtilbfkabfgnhpaaGreat
