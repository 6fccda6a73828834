/- (*divider).by at whatever divisor but 0; nat.DivMod at all. nat.word. -/
import Derived.Test.YtheaeggecpfcbaaGreatJ2
import Derived.Deep.RegionHeld3
import Derived.Handy
set_option maxRecDepth 100000
set_option maxHeartbeats 4000000
set_option linter.unusedVariables false
set_option linter.unusedSimpArgs false
namespace Go.Proofs.YtheaeggecpfcbaaGreat
open Go.RowKit
theorem Kept2.weak {w w':World} {B:Nat} (h:Kept2 w w' B none) (r:Option Nat):Kept2 w w' B r:=⟨h.os,h.tape,h.output,h.size,fun k hk hB _=>h.block k hk hB (fun e=>by cases e)⟩
theorem Kept2.grow' {a w w':World} {B:Nat} {r:Option Nat} (h:Kept2 a w B r) (k:Below w.heap.size w w'):Kept2 a w' B r:=
 ⟨k.os.trans h.os,k.tape.trans h.tape,k.output.trans h.output,Nat.le_trans h.size k.size,fun i hi hB hr=>(k.block i (Nat.lt_of_lt_of_le hi h.size)).trans (h.block i hi hB hr)⟩
theorem by_short2 {base B ty c:Nat} {w:World} {a:Option Addr} {xs ys:List Int} (m bc:Nat) (ba:Option Addr) (hbox:Box w B ty (.slice a xs.length c)) (hown:Own base w (.slice a xs.length c) xs) (cx:can xs) (cy:can ys) (hy:ys.length=m) (hlt:xs.length<m) (hn:xs.length≤17592186044415) (hm:m≤17592186044415) :
    Calls Tryz.prog 168 #[.pointer (some ⟨B,0,none⟩),.slice ba m bc] w fun e w'=>Divides2 base w B ty none (Value.slice a xs.length c).ownBlock xs ys e w':=by
 have hc:=cell_of_one hbox;have HY:Hid (ys.length=m):=hy;clear hy;go_enter Tryz.func168,Tryz.ntmps168;go_wp2
 go_ret
 exact ⟨[],xs,none,0,a,c,rfl,⟨lim_nil,World.ownsRow_nil _ _ _ _⟩,can_nil,cx,hbox,hown,by simp [val],can_len_lt cx cy (by rw [HY.out];exact hlt),Nat.zero_le _,Nat.le_refl _,by rw [HY.out];omega,(fun k hk=>Or.inl hk.symm),Kept2.refl _ _ _⟩
theorem by_one2 {base B ty c g o:Nat} {w:World} {a:Option Addr} {xs:List Int} (bc:Nat) (d:Int) (hty:ty≠92) (hd0:0<d) (hd1:d<4294967296) (hbox:Box w B ty (.slice a xs.length c)) (hown:Own base w (.slice a xs.length c) xs) (hBb:base≤B) (hbs:base≤w.heap.size) (hx1:1≤xs.length) (hcell:w.cell? ⟨g,o,none⟩=some (.int .u32 d)) (hn:xs.length≤17592186044415) :
    Calls Tryz.prog 168 #[.pointer (some ⟨B,0,none⟩),.slice (some ⟨g,o,none⟩) 1 bc] w fun e w'=>Divides2 base w B ty (Value.slice a xs.length c).ownBlock (Value.slice a xs.length c).ownBlock xs [d] e w':=by
 have hbox0:=hbox;have hown0:=hown;have hc:=cell_of_one hbox;have hsz:=lt_of_block hbox;have hx1b:decide ((xs.length:Int)<1)=false:=by simp;omega
 have r0:=Int.emod_nonneg (val xs) (show d≠0 by omega);have r1:=Int.emod_lt_of_pos (val xs) hd0;have hdm:d*(val xs/d)+val xs % d=val xs:=Int.mul_ediv_add_emod (val xs) d;generalize hR:val xs % d=r at *;generalize hQ:val xs/d=q at *;have HR:Hid (val xs % d=r):=hR;have HQ:Hid (val xs/d=q):=hQ;have HD:Hid (d*q+r=val xs):=hdm;clear hR hQ hdm;go_enter Tryz.func168,Tryz.ntmps168;go_wp2
 go_region_with (go_at_call 179;refine (divLimb_walk a c xs.length d hd0 hd1 hty rfl (by first | exact hbox0 | exact hbox0.drew) (by first | exact hown0 | exact hown0.drew) hn).mono ?_;rintro e w1 ⟨rfl,zs,cz,vz,lz,hbox1,hown1,hk1⟩;rw [HR.out])
 have hc1:=cell_of_one hbox1;have hf1:=free_of_one hbox1;have hlt1:=lt_of_block hbox1;have hs1:w.heap.size≤w1.heap.size:=hk1.size;rw [HQ.out] at vz;have HZ:Hid (val zs=q):=vz;clear vz
 go_wp2_with fail
 refine (beginAt_any r r0 (by omega) _).mono ?_;intro e w2 hm2;obtain ⟨a2,c2,rfl,hown2,hbl2⟩:=hm2;have hO:=of_limb r r0 (by omega);generalize tr [r % 4294967296,r/4294967296]=rs at *;have HO:Hid (val rs=r∧can rs∧rs.length≤1):=hO;clear hO;have hbox2:Box w2 B ty (.slice a zs.length c):=by unfold Box;rw [hbl2.block B hlt1];exact hbox1
 have hown1':Own base w2 (.slice a zs.length c) zs:=hown1.below hbl2 (Nat.le_refl _);have hc2:=cell_of_one hbox2;have hf2:=free_of_one hbox2;have hsz2:=hbl2.size;clear hc1 hf1 hc;go_wp2
 go_ret
 have hown2':=hown2.mono (base':=base) (by omega);have hk1':Kept2 w w1 B (Value.slice a xs.length c).ownBlock:=⟨hk1.os,hk1.tape,hk1.output,hk1.size,hk1.block⟩;refine ⟨zs,rs,a,c,a2,c2,rfl,hown1'.setCell (own_box_ne hbox2 hown1' hty) _,cz,HO.out.2.1,one_setCell hbox2,hown2'.setCell (own_box_ne hbox2 hown2' hty) _,?_,?_,lz,by have:=HO.out.2.2;omega,HO.out.2.2,(fun k hk=>Or.inr (by have:=(hown2.2.lt k hk).1;omega)),(hk1'.grow' hbl2).setCell (Or.inl rfl) _⟩
 · rw [HZ.out,HO.out.1];simp only [val];rw [← HD.out,Int.mul_comm q];simp
 · rw [HO.out.1];simp only [val];omega
/-- (*divider).by at whatever divisor but 0. -/
theorem by_any2 {base B ty c Br:Nat} {w:World} {a:Option Addr} {bv:Value} {xs ys:List Int} (hty:ty≠92) (hbox:Box w B ty (.slice a xs.length c)) (hown:Own base w (.slice a xs.length c) xs) (hBb:base≤B) (hbs:base≤w.heap.size) (cx:can xs) (cy:can ys) (hy0:¬ ys.length=0) (hn:xs.length≤17592186044415) (hm:ys.length≤17592186044415) (hb:Rd Br w bv ys) (hBr:Br≤w.heap.size) :
    Calls Tryz.prog 168 #[.pointer (some ⟨B,0,none⟩),bv] w fun e w'=>Divides2 base w B ty (Value.slice a xs.length c).ownBlock (Value.slice a xs.length c).ownBlock xs ys e w':=by
 have weak:∀ e w',Divides2 base w B ty none (Value.slice a xs.length c).ownBlock xs ys e w'→Divides2 base w B ty (Value.slice a xs.length c).ownBlock (Value.slice a xs.length c).ownBlock xs ys e w':=by
  rintro e w' ⟨qs,rs,a1,c1,a2,c2,h1,h2,h3,h4,h5,h6,h7,h8,h9,h10,h11,h13,h12⟩;exact ⟨qs,rs,a1,c1,a2,c2,h1,h2,h3,h4,h5,h6,h7,h8,h9,h10,h11,h13,h12.weak _⟩
 obtain ⟨_,ba,bc,rfl,_,_,_,kb⟩:=hb;rcases kb with kb | ⟨g,o,rfl,hg,hcb⟩
 · exact absurd kb hy0
 by_cases hlt:xs.length<ys.length
 · exact (by_short2 ys.length bc _ hbox hown cx cy rfl hlt (by omega) (by omega)).mono weak
 · by_cases h1:ys.length=1
   · match ys,h1 with
     | [d],_=>
      have hd0:=cy.1 d (by simp);have hd1:d≠0:=by
       rcases cy.2 with h | h
       · simp at h
       · simpa using h
      exact by_one2 bc d hty (by omega) hd0.2 hbox hown hBb hbs (by have h:¬ xs.length<1:=hlt;omega) (hcb 0 (by simp)) (by omega)
   · obtain ⟨m,hm2⟩:∃ m,ys.length=m+2:=⟨ys.length - 2,by omega⟩
     rw [hm2] at hcb ⊢;exact (by_long hty rfl hm2 hbox hown hBb hbs cy (by omega) hn ⟨g,o,rfl,by omega,hcb⟩).mono weak
theorem wor_zero_left (x:Int) (h:0≤x∧x<18446744073709551616):bits .or .u64 0 x=x:=by
 obtain ⟨a,rfl⟩:=Int.eq_ofNat_of_zero_le h.1;have:=bits_or_u64_nat 0 a (by omega) (by omega);rw [Nat.zero_or] at this;exact this
theorem wor_add_right (q v:Int) (hq:0≤q∧q<4294967296) (hv:0≤v∧v<4294967296):bits .or .u64 v (q*4294967296)=v+q*4294967296:=by
 obtain ⟨a,rfl⟩:=Int.eq_ofNat_of_zero_le hq.1;obtain ⟨b,rfl⟩:=Int.eq_ofNat_of_zero_le hv.1;have e:((a:Int)*4294967296)=((a*4294967296:Nat):Int):=by omega
 rw [e,bits_or_u64_nat _ _ (by omega) (by omega)];have h:b ||| a*4294967296=a*4294967296+b:=by
  have:=Nat.two_pow_add_eq_or_of_lt (i:=32) (b:=b) (by omega) a;rw [Nat.mul_comm,Nat.or_comm];exact this.symm
 rw [h];omega
theorem wd_two (b o c:Nat) (x y:Int) (w:World) (hx:0≤x∧x<4294967296) (hy:0≤y∧y<4294967296) (k1:w.cell? ⟨b,o,none⟩=some (.int .u32 x)) (k2:w.cell? ⟨b,o+1,none⟩=some (.int .u32 y)) :
    Calls Tryz.prog 171 #[.slice (some ⟨b,o,none⟩) 2 c] w fun e w'=>e=.returned (.int .u64 (x+y*4294967296))∧w=w':=by
 have e1:=wor_zero_left x (by omega);have e2:=wor_add_right y x hy hx;go_enter Tryz.func171,Tryz.ntmps171;go_wp2
 refine wp_loop_rounds 3 ?_;rw [rounds_succ];go_wp2
 rw [rounds_succ];go_wp2
 rw [rounds_succ];go_wp2
 go_ret
 exact ⟨rfl,rfl⟩
theorem wd_one (b o c:Nat) (x:Int) (w:World) (hx:0≤x∧x<4294967296) (k1:w.cell? ⟨b,o,none⟩=some (.int .u32 x)) :
    Calls Tryz.prog 171 #[.slice (some ⟨b,o,none⟩) 1 c] w fun e w'=>e=.returned (.int .u64 x)∧w=w':=by
 have e1:=wor_zero_left x (by omega);go_enter Tryz.func171,Tryz.ntmps171;go_wp2
 refine wp_loop_rounds 2 ?_;rw [rounds_succ];go_wp2
 rw [rounds_succ];go_wp2
 go_ret
 exact ⟨rfl,rfl⟩
theorem wd_zero (a:Option Addr) (c:Nat) (w:World) :
    Calls Tryz.prog 171 #[.slice a 0 c] w fun e w'=>e=.returned (.int .u64 0)∧w=w':=by
 go_enter Tryz.func171,Tryz.ntmps171;go_wp2
 refine wp_loop_rounds 1 ?_;rw [rounds_succ];go_wp2
 go_ret
 exact ⟨rfl,rfl⟩
/-- nat.word of at most two limbs: the number. -/
theorem wd_rd {B:Nat} {w:World} {v:Value} {xs:List Int} (h:Rd B w v xs) (h2:xs.length≤2) :
    Calls Tryz.prog 171 #[v] w fun e w'=>e=.returned (.int .u64 (val xs))∧w=w':=by
 obtain ⟨hl,a,c,rfl,_,_,_,r⟩:=h
 match xs,h2 with
 | [],_=>exact wd_zero a c w
 | [x],_=>
  rcases r with r | ⟨b,o,rfl,_,k⟩
  · simp at r
  · have e:val [x]=x:=by simp [val]
    rw [e];exact wd_one b o c x w (hl x (by simp)) (k 0 (by simp))
 | [x,y],_=>
  rcases r with r | ⟨b,o,rfl,_,k⟩
  · simp at r
  · have e:val [x,y]=x+y*4294967296:=by simp [val];rw [Int.mul_comm]
    rw [e];exact wd_two b o c x y w (hl x (by simp)) (hl y (by simp)) (k 0 (by simp)) (k 1 (by simp))
/-- The greatest common divisor of numbers from 0 on. -/
def gI (a b:Int):Int:=((Nat.gcd a.toNat b.toNat:Nat):Int)
theorem gI_zero (x:Int) (h:0≤x):gI x 0=x:=by unfold gI;simp;omega
theorem gI_comm (x y:Int):gI x y=gI y x:=by unfold gI;rw [Nat.gcd_comm]
theorem gI_nonneg (x y:Int):0≤gI x y:=by unfold gI;omega
theorem gI_step (x y:Int) (hx:0≤x) (hy:0≤y):gI x y=gI y (x % y):=by
 obtain ⟨a,rfl⟩:=Int.eq_ofNat_of_zero_le hx;obtain ⟨b,rfl⟩:=Int.eq_ofNat_of_zero_le hy;unfold gI;have e:((a:Int) % (b:Int))=((a % b:Nat):Int):=by simp
 rw [e];simp only [Int.toNat_natCast];rw [Nat.gcd_comm a b,Nat.gcd_rec b a,Nat.gcd_comm]
theorem gI_of (x y q r:Int) (hx:0≤x) (hy:0≤y) (h:x=q*y+r) (h0:0≤r) (h1:r<y):gI x y=gI y r:=by
 rw [gI_step x y hx hy];have:x % y=r:=by rw [h,Int.add_comm,Int.add_mul_emod_self_right,Int.emod_eq_of_lt h0 h1]
 rw [this]
theorem gI_le (x y:Int) (hx:0≤x) (hy:0≤y):gI x y≤x+y:=by
 unfold gI;by_cases h:x.toNat=0
 · rw [h,Nat.gcd_zero_left];omega
 · have:=Nat.gcd_le_left y.toNat (Nat.pos_of_ne_zero h);omega
theorem wordGcd_any {w:World} (a b:Int) (ha:0≤a∧a<18446744073709551616) (hb:0≤b∧b<18446744073709551616) :
    Calls Tryz.prog 170 #[.int .u64 a,.int .u64 b] w fun e w'=>e=.returned (.int .u64 (gI a b))∧∃ k,w'=w.drewN k:=by
 go_enter Tryz.func170,Tryz.ntmps170;go_wp2
 go_loopw [0,1] (fun r s wr=>∃ x y:Int,r=.int .u64 x∧s=.int .u64 y∧0≤x∧x<18446744073709551616∧0≤y∧y<18446744073709551616∧Hid (gI x y=gI a b)∧∃ k,wr=w.drewN k)
  (fun _ s _=>(intOf s).toNat)
 case atStart=>exact ⟨a,b,rfl,rfl,ha.1,ha.2,hb.1,hb.2,rfl,0,rfl⟩
 case round=>
  obtain ⟨x,y,rfl,rfl,hx0,hx1,hy0,hy1,hg,k,rfl⟩:=hrel;by_cases hz:0<y
  · have hyb:(y==0)=false:=by simp;omega
    have m0:0≤x % y:=Int.emod_nonneg _ (by omega);have m1:x % y<y:=Int.emod_lt_of_pos _ hz;go_wp2
    go_quiet (fail)
    go_wp2
    go_roundw
    case rel=>exact ⟨y,x % y,rfl,rfl,hy0,hy1,m0,by omega,by unfold Hid;rw [← gI_step x y hx0 hy0];exact hg.out,_,World.drewN_drewN _ _ _⟩
    case measure=>simp [intOf];omega
  · obtain rfl:y=0:=by omega
    have hgx:=hg.out;rw [gI_zero x hx0] at hgx;have HGX:Hid (x=gI a b):=hgx;clear hgx;go_wp2
    go_ret
    exact ⟨ret_int HGX.out,k,rfl⟩
theorem of_word (r:Int) (h0:0≤r) (h1:r<18446744073709551616):val (tr [r % 4294967296,r/4294967296])=r∧can (tr [r % 4294967296,r/4294967296])∧(tr [r % 4294967296,r/4294967296]).length≤2:=by
 have hl:lim [r % 4294967296,r/4294967296]:=by
  intro x hx;simp at hx;omega
 refine ⟨by rw [val_tr];simp only [val];omega,tr_can hl,?_⟩;have:=tr_length_le [r % 4294967296,r/4294967296];simpa using this
theorem two_limbs {xs:List Int} (h:lim xs) (hl:xs.length≤2):0≤val xs∧val xs<18446744073709551616:=by
 have h1:=val_bound h;have h2:=pw_mono hl;have e:pw 2=18446744073709551616:=by decide
 omega
/-- Two rows of the call's own are not the same. -/
def Apart (u v:Value):Prop:=∀ k,u.ownBlock=some k→v.ownBlock≠some k
theorem with_any {base B K:Nat} {w:World} {a ba:Option Addr} {c bc:Nat} {xs ys:List Int} (hbox:Box w B 165 (.slice a xs.length c)) (hown:Own base w (.slice a xs.length c) xs) (cx:can xs) (hownb:Own base w (.slice ba ys.length bc) ys) (cy:can ys) (hap:Apart (.slice a xs.length c) (.slice ba ys.length bc)) (hBb:base≤B) (hbs:base≤w.heap.size) (hxK:xs.length≤K) (hyK:ys.length≤K) (hK:K≤17592186044414) :
    Calls Tryz.prog 151 #[.pointer (some ⟨B,0,none⟩),.slice ba ys.length bc] w fun e w'=>e=.returned (.tuple #[])∧∃ zs a' c',can zs∧val zs=gI (val xs) (val ys)∧zs.length≤K+2∧Box w' B 165 (.slice a' zs.length c')∧Own base w' (.slice a' zs.length c') zs∧Below base w w':=by
 go_enter Tryz.func151,Tryz.ntmps151;go_wp2
 go_loopg [1] (val ys).toNat (fun gk s wr=>∃ (us vs:List Int) (a1 a2:Option Addr) (c1 c2:Nat),Hid (gk=(val vs).toNat)∧s=.slice a2 vs.length c2∧can us∧can vs∧us.length≤K∧vs.length≤K∧Box wr B 165 (.slice a1 us.length c1)∧Own base wr (.slice a1 us.length c1) us∧Own base wr (.slice a2 vs.length c2) vs∧Apart (.slice a1 us.length c1) (.slice a2 vs.length c2)∧Hid (gI (val us) (val vs)=gI (val xs) (val ys))∧Below base w wr)
 case atStart=>exact ⟨xs,ys,a,ba,c,bc,rfl,rfl,cx,cy,hxK,hyK,hbox,hown,hownb,hap,rfl,Below.refl _ _⟩
 case round=>
  obtain ⟨us,vs,a1,a2,c1,c2,hgk,rfl,cu,cv,huK,hvK,hboxr,hownu,hownv,hapr,hg,hbl⟩:=hrel;have hcr:=cell_of_one hboxr;have hfr:=free_of_one hboxr;have hsz:=hbl.size;have hneB:=own_box_ne hboxr hownv (by decide);have hu0:=(val_bound cu.1).1;have hv0:=(val_bound cv.1).1;by_cases hlen:2<vs.length
  · go_wp2_with fail
    refine (by_any2 (by decide) hboxr hownu hBb (by omega) cu cv (by omega) (by omega) (by omega) hownv.rd (Nat.le_refl _)).mono ?_;rintro e w1 ⟨qs,rs,a3,c3,a4,c4,rfl,hq,cq,cr,hbox1,hown1,hval,hlt,_,hrl,hrv,hrow,hk1⟩;have hownv1:Own base w1 (.slice a2 vs.length c2) vs:=hownv.kept2 hk1 hneB (fun k hk e=>hapr k e.symm hk);have hap1:Apart (.slice a2 vs.length c2) (.slice a4 rs.length c4):=by
     intro k hk hk2;rcases hrow k hk2 with e | e
     · exact hapr k e.symm hk
     · have:=(hownv.2.lt k hk).2;omega
    have hr0:=(val_bound cr.1).1;have hg1:=gI_of _ _ _ _ hu0 hv0 hval hr0 hlt;have HG1:Hid (gI (val vs) (val rs)=gI (val xs) (val ys)):=by unfold Hid;rw [← hg1];exact hg.out
    have HLT:Hid (val rs<val vs∧0≤val rs):=⟨hlt,hr0⟩;have hc1:=cell_of_one hbox1;have hf1:=free_of_one hbox1;have hbl1:Below base w w1:=hbl.trans (hk1.below hBb (by omega) (fun k hk=>(hownu.2.lt k hk).1));clear hq hval hlt hg1 hcr hfr hu0 hv0 hr0;go_wp2
    go_roundg ((val rs).toNat)
    case rel=>exact ⟨vs,rs,a2,a4,c2,c4,rfl,rfl,cv,cr,hvK,by omega,one_setCell hbox1,hownv1.setCell (own_box_ne hbox1 hownv1 (by decide)) _,hown1.setCell (own_box_ne hbox1 hown1 (by decide)) _,hap1,HG1,hbl1.setCell hBb _⟩
    case measure=>have h1:=HLT.out;have h2:=hgk.out;omega
  · by_cases h0:vs.length=0
    · have hvz:=(can_zero cv).1 h0
      have hg1:=hg.out;rw [hvz,gI_zero _ hu0] at hg1;have HG1:Hid (val us=gI (val xs) (val ys)):=hg1;have h0':((vs.length:Nat):Int)=0:=by omega
      clear hvz hg1;go_wp2
      go_end0
      exact ⟨rfl,us,a1,c1,cu,HG1.out,by omega,hboxr,hownu,hbl⟩
    · have h0':¬ ((vs.length:Nat):Int)≤0:=by omega
      go_wp2_with fail
      refine (by_any2 (by decide) hboxr hownu hBb (by omega) cu cv (by omega) (by omega) (by omega) hownv.rd (Nat.le_refl _)).mono ?_;rintro e w1 ⟨qs,rs,a3,c3,a4,c4,rfl,hq,cq,cr,hbox1,hown1,hval,hlt,_,hrl,hrv,hrow,hk1⟩;have hownv1:Own base w1 (.slice a2 vs.length c2) vs:=hownv.kept2 hk1 hneB (fun k hk e=>hapr k e.symm hk);have hr0:=(val_bound cr.1).1;have hg1:=gI_of _ _ _ _ hu0 hv0 hval hr0 hlt;have HG1:Hid (gI (val vs) (val rs)=gI (val xs) (val ys)):=by unfold Hid;rw [← hg1];exact hg.out
      have hc1:=cell_of_one hbox1;have hf1:=free_of_one hbox1;have hbl1:Below base w w1:=hbl.trans (hk1.below hBb (by omega) (fun k hk=>(hownu.2.lt k hk).1));have b1:=two_limbs cv.1 (by omega);have b2:=two_limbs cr.1 (by omega);have rv:=hownv1.rd;have rr:=hown1.rd;have hgle:=gI_le _ _ b1.1 b2.1;have hgn:=gI_nonneg (val vs) (val rs);have hglt:gI (val vs) (val rs)<18446744073709551616:=by
       have h1:gI (val vs) (val rs)≤val vs:=by
        unfold gI;have hp:0<(val vs).toNat:=by
         have:=can_zero cv;have:¬ val vs=0:=fun e=>h0 (this.2 e);omega
        have:=Nat.gcd_le_left (val rs).toNat hp;omega
       omega
      have lt1:=lt_of_block hbox1;clear hq hval hlt hg1 hcr hfr hu0 hv0 hr0 hgle;generalize hVV:val vs=V at *;generalize hRR:val rs=R at *;go_wp2
      have rvd:Rd w1.heap.size w1.drew (.slice a2 vs.length c2) vs:=rv;have rrd:Rd w1.heap.size w1.drew (.slice a4 rs.length c4) rs:=rr;clear hown hbox hownb hap hrow hk1 hboxr hownu hownv hapr hneB rv rr
      go_region_with
       (first
       | (go_at_call_of 171 a2;refine (wd_rd (B:=w1.heap.size) (xs:=vs) (by exact rvd) (by omega)).mono ?_;rintro e wx ⟨rfl,rfl⟩;rw [hVV])
       | (go_at_call_of 171 a4;refine (wd_rd (B:=w1.heap.size) (xs:=rs) (by exact rrd) (by omega)).mono ?_;rintro e wx ⟨rfl,rfl⟩;rw [hRR])
       | (go_at_call 170;refine (wordGcd_any V R b1 b2).mono ?_;rintro e wx ⟨rfl,kx,rfl⟩)
       | (go_at_call 169;refine (beginAt_any (gI V R) hgn hglt _).mono ?_;rintro e w2 ⟨a5,c5,rfl,hown5,hbl5⟩;have hO:=of_word (gI V R) hgn hglt;generalize tr [gI V R % 4294967296,gI V R/4294967296]=gs at *;have HO:=hide hO;clear hO;have hf5:w2.frozen? ⟨B,0,none⟩=false:=(hbl5.frozen (p:=⟨B,0,none⟩) (show B<_ from lt1)).trans hf1;have hc5:w2.cell? ⟨B,0,none⟩=some (.slice a4 rs.length c4):=(hbl5.cell (p:=⟨B,0,none⟩) (show B<_ from lt1)).trans hc1))
      all_goals
       have hbs1:base≤w1.heap.size:=by omega
       have hb5:Below base w1 w2:=⟨hbl5.os,hbl5.tape,hbl5.output,hbl5.size,fun k hk=>hbl5.block k (Nat.lt_of_lt_of_le hk (show base≤w1.heap.size from hbs1))⟩;have hbox5:Box w2 B 165 (.slice a4 rs.length c4):=by unfold Box;rw [hbl5.block B (show B<w1.heap.size from lt1)];exact hbox1
       have hown6:Own base w2 (.slice a5 gs.length c5) gs:=hown5.mono (show base≤w1.heap.size from hbs1)
       go_end0
       exact ⟨rfl,gs,a5,c5,HO.out.2.1,HO.out.1.trans HG1.out,by have:=HO.out.2.2;omega,one_setCell hbox5,hown6.setCell (own_box_ne hbox5 hown6 (by decide)) _,(hbl1.trans hb5).setCell hBb _⟩
def gcdV (xss:List (List Int)):Int:=xss.foldl (fun a xs=>gI a (val xs)) 0
theorem gcdV_succ (xss:List (List Int)) (i:Nat) (h:i<xss.length):gcdV (xss.take (i+1))=gI (gcdV (xss.take i)) (val (xss.getD i [])):=by
 rw [take_succ_getD' xss i [] h];unfold gcdV;rw [List.foldl_append];rfl
theorem gcd_any {Lb k M:Nat} {vs:List Value} {xss:List (List Int)} {w:World} (hm:Many w Lb k vs xss) (hk:k≤1000) (hM:M≤1000000) (hs:∀ j,j<k→(xss.getD j []).length≤M) :
    Calls Tryz.prog 128 #[.slice (some ⟨Lb,0,none⟩) k k] w fun e w'=>∃ zs,can zs∧val zs=gcdV xss∧zs.length≤M+2*k∧Makes w e w' zs:=by
 go_enter Tryz.func128,Tryz.ntmps128;go_wp2
 go_loopw [8] (fun s wr=>∃ (i:Nat) (zs:List Int) (a:Option Addr) (c:Nat),i≤k∧s=.int .i64 i∧can zs∧Hid (val zs=gcdV (xss.take i))∧zs.length≤M+2*i∧Box wr w.heap.size 165 (.slice a zs.length c)∧Own w.heap.size wr (.slice a zs.length c) zs∧Below w.heap.size w wr)
  (fun s _=>k - (intOf s).toNat)
 case atStart=>exact ⟨0,[],none,0,Nat.zero_le _,rfl,can_nil,rfl,by simp,heap_alloc_new _ _,⟨lim_nil,World.ownsRow_nil _ _ _ _⟩,(Below.refl _ _).alloc (Nat.le_refl _) _⟩
 case round=>
  obtain ⟨i,zs,a1,c1,hik,rfl,hcan,hval,hlen,hbox,hown,hbl⟩:=hrel;have hsz:=hbl.size;have hlt0:=lt_of_block hbox;by_cases hlt:i<k
  · have hcell:wr.cell? ⟨Lb,i,none⟩=some (vs.getD i (.bool false)):=(hbl.cell hm.lt).trans (hm.cell i hlt)
    have hrd:Rd w.heap.size wr (vs.getD i (.bool false)) (xss.getD i []):=(hm.rd i hlt).below hbl;have hsi:=hs i hlt;generalize hV:vs.getD i (.bool false)=V at *;clear hV hs
    go_wp2_with fail
    refine (trim_rd hrd (by omega)).mono ?_;rintro e w2 ⟨a2,c2,rfl,hown2,hbl2⟩;have htl:=tr_length_le (xss.getD i []);have hct:=tr_can hrd.lim;have hvt:=val_tr (xss.getD i []);generalize tr (xss.getD i [])=us at *;have HVT:Hid (val us=val (xss.getD i [])):=hvt;clear hvt;have hsz2:=hbl2.size;have hbox2:Box w2 w.heap.size 165 (.slice a1 zs.length c1):=by unfold Box;rw [hbl2.block _ hlt0];exact hbox
    have hown2':Own w.heap.size w2 (.slice a1 zs.length c1) zs:=hown.below hbl2 (Nat.le_refl _);have hap:Apart (.slice a1 zs.length c1) (.slice a2 us.length c2):=fun q h1 h2=>by
     have:=(hown.2.lt q h1).2;have:=(hown2.2.lt q h2).1;omega
    go_wp2_with fail
    refine (with_any (K:=M+2*i) hbox2 hown2' hcan (hown2.mono hsz) hct hap (Nat.le_refl _) (by omega) hlen (by omega) (by omega)).mono ?_;rintro e w3 ⟨rfl,ts,a3,c3,hct3,hv3,hl3,hbox3,hown3,hbl3⟩;have HV3:Hid (val ts=gcdV (xss.take (i+1))):=by
     unfold Hid;rw [hv3,hval.out,HVT.out,gcdV_succ xss i (by rw [hm.lx];exact hlt)]
    clear hv3;go_wp2
    go_roundw
    case rel=>exact ⟨i+1,ts,a3,c3,by omega,by go_num,hct3,HV3,by omega,hbox3,hown3,hbl.trans ((hbl2.mono hsz).trans hbl3)⟩
    case measure=>simp [intOf];omega
  · obtain rfl:i=k:=by omega
    have hc:=cell_of_one hbox;go_wp2
    go_ret
    refine ⟨zs,hcan,?_,hlen,a1,c1,rfl,hown,hbl⟩;rw [hval.out,← hm.lx,List.take_length]
theorem gI_zero_left (x:Int) (h:0≤x):gI 0 x=x:=by rw [gI_comm];exact gI_zero x h
section
variable {B1 B2 B3:Nat} {w:World} {v1 v2 v3:Value} {x1 x2 x3:List Int}
theorem gcd2 (h1:Rd B1 w v1 x1) (h2:Rd B2 w v2 x2) (b1:B1≤w.heap.size) (b2:B2≤w.heap.size) (M:Nat) (hM:M≤1000000) (l1:x1.length≤M) (l2:x2.length≤M) :
    Calls Tryz.prog 128 #[.slice (some ⟨w.heap.size,0,none⟩) 2 2] (w.alloc (.cells #[v1,v2] 32)) fun e w'=>∃ zs,can zs∧val zs=gI (val x1) (val x2)∧zs.length≤M+4∧Makes w e w' zs:=by
 refine (gcd_any (M:=M) (many2 h1 h2 b1 b2) (by omega) hM (fun j hj => ?_)).mono ?_
 · match j,hj with
   | 0,_=>exact l1
   | 1,_=>exact l2
 · rintro e w' ⟨zs,cz,vz,lz,hm⟩
   exact ⟨zs,cz,by rw [vz];simp only [gcdV,List.foldl];rw [gI_zero_left _ (val_bound h1.lim).1],lz,hm.alloc⟩
end
/-- A call that tells whether P holds. -/
def TellsP (P:Prop) (e:Ending):Prop:=∃ r,e=.returned (.bool r)∧(r=true↔P)
theorem TellsP.yes {P:Prop} (h:P):TellsP P (.returned (.bool true)):=⟨true,rfl,⟨fun _=>h,fun _=>rfl⟩⟩
theorem TellsP.no {P:Prop} (h:¬ P):TellsP P (.returned (.bool false)):=⟨false,rfl,⟨(fun e=>by cases e),fun e=>absurd e h⟩⟩
theorem rightB_can {xs:List Int} (h:lim xs):rightB xs=true↔can xs:=by
 unfold rightB;rw [decide_eq_true_iff];constructor
 · intro e
   have h1:tr xs=xs:=by unfold tr at e ⊢;exact List.take_of_length_le (by rw [List.length_take] at e;omega)
   rw [← h1];exact tr_can h
 · intro hc
   rw [can_inj (tr_can h) hc (val_tr xs)]
theorem isOne_long (a:Option Addr) (n c:Nat) (w:World) (h:¬ n=1):Calls Tryz.prog 127 #[.slice a n c] w fun e w'=>e=.returned (.bool false)∧w=w':=by
 have hb:((n:Int)==1)=false:=by simp;omega
 go_enter Tryz.func127,Tryz.ntmps127;go_wp2
 go_ret
 exact ⟨rfl,rfl⟩
theorem isOne_one (b o c:Nat) (x:Int) (r:Bool) (w:World) (hr:(x==1)=r) (k:w.cell? ⟨b,o,none⟩=some (.int .u32 x)):Calls Tryz.prog 127 #[.slice (some ⟨b,o,none⟩) 1 c] w fun e w'=>e=.returned (.bool r)∧w=w':=by
 go_enter Tryz.func127,Tryz.ntmps127;go_wp2
 go_ret
 exact ⟨rfl,rfl⟩
theorem isOne_any {B:Nat} {w:World} {v:Value} {xs:List Int} (h:Rd B w v xs):Calls Tryz.prog 127 #[v] w fun e w'=>e=.returned (.bool (decide (xs=[1])))∧w=w':=by
 obtain ⟨_,a,c,rfl,hc,hb,_,kp⟩:=h;by_cases h1:xs.length=1
 · rcases kp with kp | ⟨b,o,rfl,_,kp⟩
   · omega
   match xs,h1 with
   | [x],_=>
    refine isOne_one b o c x _ w ?_ (kp 0 (by simp));by_cases hx:x=1
    · subst hx;rfl
    · rw [beq_eq_false_iff_ne.2 hx,decide_eq_false (by simpa using hx)]
 · rw [decide_eq_false (by intro e;rw [e] at h1;simp at h1)]
   exact isOne_long a xs.length c w h1
theorem one_any (w:World):Calls Tryz.prog 52 #[] w fun e w'=>Makes w e w' [1]:=by
 go_enter Tryz.func52,Tryz.ntmps52
 go_wp2_with fail
 refine (of_any 1 (by omega) (by omega) _).mono ?_;intro e w1 hm;rw [of_small 1 (by omega) (by omega)] at hm;obtain ⟨a1,c1,rfl,ho1,hb1⟩:=hm;go_wp2
 go_ret
 exact ⟨a1,c1,rfl,ho1,hb1⟩
/-- What a right number is. -/
def RightP (b:Bool) (ns ds:List Int):Prop:=ns.length≤32∧ds.length≤32∧can ns∧can ds∧¬ (b=true∧ns.length=0)∧0<ds.length∧gI (val ns) (val ds)=1
theorem gI_one_right (x:Int):gI x 1=1:=by unfold gI;simp
theorem right_rat {B:Nat} {w:World} {b:Bool} {a1 a2:Option Addr} {c1 c2:Nat} {ns ds:List Int} (h1:Rd B w (.slice a1 ns.length c1) ns) (h2:Rd B w (.slice a2 ds.length c2) ds) (hB:B≤w.heap.size) :
    Calls Tryz.prog 75 #[.agg #[.bool b,.slice a1 ns.length c1,.slice a2 ds.length c2]] w fun e w'=>TellsP (RightP b ns ds) e∧Below w.heap.size w w':=by
 have b0:Below w.heap.size w (w.alloc (.cells #[.bool b,.slice a1 ns.length c1,.slice a2 ds.length c2] 34)):=(Below.refl _ _).alloc (Nat.le_refl _) _;have g1:=h1.below (b0.mono hB);have g2:=h2.below (b0.mono hB);have s0:w.heap.size<(w.alloc (.cells #[.bool b,.slice a1 ns.length c1,.slice a2 ds.length c2] 34)).heap.size:=by simp
 have k0:(w.alloc (.cells #[.bool b,.slice a1 ns.length c1,.slice a2 ds.length c2] 34)).cell? ⟨w.heap.size,0,none⟩=some (.bool b):=by simp
 have k1:(w.alloc (.cells #[.bool b,.slice a1 ns.length c1,.slice a2 ds.length c2] 34)).cell? ⟨w.heap.size,1,none⟩=some (.slice a1 ns.length c1):=by simp
 have k2:(w.alloc (.cells #[.bool b,.slice a1 ns.length c1,.slice a2 ds.length c2] 34)).cell? ⟨w.heap.size,2,none⟩=some (.slice a2 ds.length c2):=by simp
 go_enter Tryz.func75,Tryz.ntmps75;by_cases q1:32<ns.length
 · go_wp2
   go_ret
   exact ⟨TellsP.no (fun h=>by have:=h.1;omega),b0⟩
 by_cases q2:32<ds.length
 · go_wp2
   go_ret
   exact ⟨TellsP.no (fun h=>by have:=h.2.1;omega),b0⟩
 have c1i:=rightB_can h1.lim;have c2i:=rightB_can h2.lim
 go_wp2_with fail
 generalize hA:w.alloc (.cells #[.bool b,.slice a1 ns.length c1,.slice a2 ds.length c2] 34)=wX at *;clear hA;refine (right_any g1).mono ?_;rintro e w' ⟨rfl,rfl⟩
 cases hr1:rightB ns with
 | false=>
  have HX:Hid (¬ can ns):=by intro h;rw [c1i.2 h] at hr1;cases hr1
  clear c1i c2i hr1;go_wp2
  go_ret
  exact ⟨TellsP.no (fun h=>HX.out h.2.2.1),b0⟩
 | true=>
  have H1:Hid (can ns):=c1i.1 hr1;clear c1i hr1
  go_wp2_with fail
  refine (right_any g2).mono ?_;rintro e w' ⟨rfl,rfl⟩
  cases hr2:rightB ds with
  | false=>
   have HX:Hid (¬ can ds):=by intro h;rw [c2i.2 h] at hr2;cases hr2
   clear c2i hr2;go_wp2
   go_ret
   exact ⟨TellsP.no (fun h=>HX.out h.2.2.2.1),b0⟩
  | true=>
   have H2:Hid (can ds):=c2i.1 hr2;clear c2i hr2;by_cases hbz:b=true∧ns.length=0
   · obtain ⟨rfl,hz⟩:=hbz
     have hz':¬ 0<ns.length:=by omega
     have HX:Hid (¬ RightP true ns ds):=fun h=>h.2.2.2.2.1 ⟨rfl,hz⟩;have hzb:((ns.length:Int)==0)=true:=by rw [hz];rfl
     clear hz;go_wp2
     go_ret
     exact ⟨TellsP.no HX.out,b0⟩
   · have HB:Hid (¬ (b=true∧ns.length=0)):=hbz
     have hcs:b=false∨(b=true∧((ns.length:Int)==0)=false):=by
      cases b with
      | false=>exact Or.inl rfl
      | true=>right;refine ⟨rfl,?_⟩;simp;intro e;exact hbz ⟨rfl,by rw [e];rfl⟩
     clear hbz;rcases hcs with rfl | ⟨rfl,hnb⟩
     all_goals
      go_wp2_with fail
      refine (isOne_any g2).mono ?_;rintro e w' ⟨rfl,rfl⟩;by_cases hone:ds=[1]
      · have HR:Hid (ds.length=1∧val ds=1):=by rw [hone];exact ⟨rfl,by decide⟩
        rw [decide_eq_true hone];clear hone;go_wp2
        go_ret
        exact ⟨TellsP.yes ⟨by omega,by omega,H1.out,H2.out,(by first | exact HB.out | (have:=HB.out;simpa using this)),by have:=HR.out.1;omega,by rw [HR.out.2];exact gI_one_right _⟩,b0⟩
      · rw [decide_eq_false hone]
        clear hone;by_cases hd0:0<ds.length
        · go_wp2_with fail
          refine (gcd2 g1 g2 (by omega) (by omega) 32 (by omega) (by omega) (by omega)).mono ?_;rintro e wg ⟨zs,cz,vz,lz,ag,qg,rfl,og,bg⟩
          go_wp2_with fail
          refine (isOne_any og.rd).mono ?_;rintro e w' ⟨rfl,rfl⟩;by_cases hz1:zs=[1]
          · have HG:Hid (gI (val ns) (val ds)=1):=by unfold Hid;rw [← vz,hz1];decide
            rw [decide_eq_true hz1];clear vz hz1 lz;go_wp2
            go_ret
            exact ⟨TellsP.yes ⟨by omega,by omega,H1.out,H2.out,(by first | exact HB.out | (have:=HB.out;simpa using this)),hd0,HG.out⟩,b0.trans (bg.mono (Nat.le_of_lt s0))⟩
          · have HG:Hid (¬ gI (val ns) (val ds)=1):=by
             intro h;rw [h] at vz;exact hz1 (limbs_of cz 1 (by omega) (by omega) vz)
            rw [decide_eq_false hz1];clear vz hz1 lz;go_wp2
            go_ret
            exact ⟨TellsP.no (fun h=>HG.out h.2.2.2.2.2.2),b0.trans (bg.mono (Nat.le_of_lt s0))⟩
        · go_wp2
          go_ret
          exact ⟨TellsP.no (fun h=>hd0 h.2.2.2.2.2.1),b0⟩
theorem gI_dvd (x y:Int) (hx:0≤x) (hy:0≤y):(∃ k,x=k*gI x y∧0≤k)∧∃ k,y=k*gI x y∧0≤k:=by
 unfold gI;obtain ⟨a,ha⟩:=Nat.gcd_dvd_left x.toNat y.toNat;obtain ⟨b,hb⟩:=Nat.gcd_dvd_right x.toNat y.toNat;refine ⟨⟨a,?_,by omega⟩,⟨b,?_,by omega⟩⟩
 · rw [← Int.natCast_mul,Nat.mul_comm,← ha];omega
 · rw [← Int.natCast_mul,Nat.mul_comm,← hb];omega
theorem gI_pos (x y:Int) (hx:0≤x) (hy:0<y):0<gI x y:=by
 unfold gI;have:=Nat.gcd_pos_of_pos_right x.toNat (show 0<y.toNat by omega);omega
/-- A size with its sign. -/
def sg (b:Bool) (x:Int):Int:=if b then -x else x
theorem sg_false (x:Int):sg false x=x:=rfl
/-- A variable of three cells. -/
def Box3 (w:World) (B ty:Nat) (x y z:Value):Prop:=w.heap[B]? = some (.cells #[x,y,z] ty (0,0))
theorem box3_new (w:World) (x y z:Value) (t:Nat):Box3 (w.alloc (.cells #[x,y,z] t)) w.heap.size t x y z:=heap_alloc_new _ _
theorem Box3.below {w w':World} {B ty base:Nat} {x y z:Value} (h:Box3 w B ty x y z) (hb:Below base w w') (hB:B<base):Box3 w' B ty x y z:=by
 unfold Box3;rw [hb.block B hB];exact h
theorem Box3.c0 {w:World} {B ty:Nat} {x y z:Value} (h:Box3 w B ty x y z):w.cell? ⟨B,0,none⟩=some x:=by unfold Box3 at h;simp [World.cell?,h]
theorem Box3.c1 {w:World} {B ty:Nat} {x y z:Value} (h:Box3 w B ty x y z):w.cell? ⟨B,1,none⟩=some y:=by unfold Box3 at h;simp [World.cell?,h]
theorem Box3.c2 {w:World} {B ty:Nat} {x y z:Value} (h:Box3 w B ty x y z):w.cell? ⟨B,2,none⟩=some z:=by unfold Box3 at h;simp [World.cell?,h]
theorem Box3.f0 {w:World} {B ty:Nat} {x y z:Value} (h:Box3 w B ty x y z):w.frozen? ⟨B,0,none⟩=false:=by unfold Box3 at h;simp [World.frozen?,h]
theorem Box3.f1 {w:World} {B ty:Nat} {x y z:Value} (h:Box3 w B ty x y z):w.frozen? ⟨B,1,none⟩=false:=by unfold Box3 at h;simp [World.frozen?,h]
theorem Box3.f2 {w:World} {B ty:Nat} {x y z:Value} (h:Box3 w B ty x y z):w.frozen? ⟨B,2,none⟩=false:=by unfold Box3 at h;simp [World.frozen?,h]
theorem Box3.set {w2:World} {B ty:Nat} {p q r:Value} (h:Box3 w2 B ty p q r) (x y z:Value):Box3 (((w2.setCell ⟨B,0,none⟩ x).setCell ⟨B,1,none⟩ y).setCell ⟨B,2,none⟩ z) B ty x y z:=by
 unfold Box3 at h ⊢;simp [World.setCell,Array.getElem?_modify,h]
theorem Below.set3 {base B:Nat} {w w2:World} (h:Below base w w2) (hB:base≤B) (x y z:Value):Below base w (((w2.setCell ⟨B,0,none⟩ x).setCell ⟨B,1,none⟩ y).setCell ⟨B,2,none⟩ z):=
 ((h.setCell (p:=⟨B,0,none⟩) hB x).setCell (p:=⟨B,1,none⟩) hB y).setCell (p:=⟨B,2,none⟩) hB z
theorem Own.set3 {base B:Nat} {w2:World} {v:Value} {xs:List Int} (h:Own base w2 v xs) (hB:B<base) (x y z:Value):Own base (((w2.setCell ⟨B,0,none⟩ x).setCell ⟨B,1,none⟩ y).setCell ⟨B,2,none⟩ z) v xs:=
 ((h.setCell (a:=⟨B,0,none⟩) (ownBlock_ne h hB) x).setCell (a:=⟨B,1,none⟩) (ownBlock_ne h hB) y).setCell (a:=⟨B,2,none⟩) (ownBlock_ne h hB) z
theorem less_step (us ys:List Int) (i:Nat) (c V z c':Int) (hi:i<us.length) (h:val us - c*pw i=V - val (ys.take i)) (ht:us.getD i 0 - c - ys.getD i 0=z - c'*4294967296) :
    val (us.set i z) - c'*pw (i+1)=V - val (ys.take (i+1)):=by
 have hy:val (ys.take (i+1))=val (ys.take i)+ys.getD i 0*pw i:=by
  by_cases hy:i<ys.length
  · exact val_take_succ ys i hy
  · have e1:ys.take (i+1)=ys.take i:=by rw [List.take_of_length_le (by omega),List.take_of_length_le (by omega)]
    have e2:ys.getD i 0=0:=by simp [List.getD,List.getElem?_eq_none (Nat.le_of_not_lt hy)]
    rw [e1,e2];simp
 rw [val_set _ _ _ hi,hy,pw_succ];have key:=congrArg (fun u=>u*pw i) ht;simp only [Int.add_mul,Int.sub_mul,Int.mul_assoc,Int.mul_comm,Int.mul_left_comm] at *;omega
/-- What the difference of limbs is in a word of 64 bits, round or not. -/
theorem less_word (V C Y:Int) (hV:0≤V∧V<4294967296) (hC:0≤C∧C≤1) (hY:0≤Y∧Y<4294967296) :
    ∃ T z c',IntKind.u64.wrap (IntKind.u64.wrap (V - C) - Y)=T∧0≤T∧T<18446744073709551616∧T % 4294967296=z∧T/9223372036854775808=c'∧0≤c'∧c'≤1∧(0≤z∧z<4294967296)∧V - C - Y=z - c'*4294967296:=by
 refine ⟨_,_,_,rfl,?_,?_,rfl,rfl,?_,?_,?_,?_⟩
 all_goals (simp only [IntKind.wrap_u64];omega)
theorem less_walk {base B ty:Nat} {w:World} {xs ys:List Int} (a:Option Addr) (c L m bc:Nat) (ba:Option Addr) (hxl:Hid (xs.length=L)) (hy:Hid (ys.length=m)) (ly:lim ys) (hty:ty≠92) (hbox:Box w B ty (.slice a L c)) (hown:Own base w (.slice a L c) xs) (hBb:base≤B) (hbs:base≤w.heap.size)
    (hn:L≤17592186044415) (hm:m≤17592186044415) (hge:Hid (val ys≤val xs)) (hml:m≤L)
    (kb:0<m→∃ g o,ba=some ⟨g,o,none⟩∧g<base∧∀ j,j<m→w.cell? ⟨g,o+j,none⟩=some (.int .u32 (ys.getD j 0))) :
    Calls Tryz.prog 188 #[.pointer (some ⟨B,0,none⟩),.slice ba m bc] w fun e w'=>e=.returned (.tuple #[])∧∃ zs,can zs∧val zs=val xs - val ys∧zs.length≤xs.length∧St base w' B ty zs∧Below base w w':=by
 have hc:=cell_of_one hbox;have fin:∀ (vs:List Int) (wr:World),Hid (vs.length=L)→Own base wr (.slice a L c) vs→Box wr B ty (.slice a L c)→Below base w wr→val vs=val xs - val ys →
     (∃ zs,can zs∧val zs=val xs - val ys∧zs.length≤xs.length∧St base (wr.setCell ⟨B,0,none⟩ (vtake (.slice a L c) (tl vs vs.length))) B ty zs∧Below base w (wr.setCell ⟨B,0,none⟩ (vtake (.slice a L c) (tl vs vs.length)))):=by
  intro vs wr hvl ho hb hbl hv;have hM:=ho.meant;have hv5:vtake (.slice a L c) (tl vs vs.length)=.slice a (tr vs).length c:=by rw [tr_length];rfl
  rw [hv5] at hM ⊢;have hs:=hbl.size;refine ⟨tr vs,tr_can ho.lim,by rw [val_tr];exact hv,?_,⟨a,c,one_setCell hb,hM.setCell (own_box_ne hb hM hty) _,hBb,by simp;omega⟩,hbl.setCell hBb _⟩;have h1:=tr_length_le vs;have h2:=hvl.out;have h3:=hxl.out;omega
 have FIN:Hid (∀ (vs:List Int) (wr:World),Hid (vs.length=L)→Own base wr (.slice a L c) vs→Box wr B ty (.slice a L c)→Below base w wr→val vs=val xs - val ys →
     (∃ zs,can zs∧val zs=val xs - val ys∧zs.length≤xs.length∧St base (wr.setCell ⟨B,0,none⟩ (vtake (.slice a L c) (tl vs vs.length))) B ty zs∧Below base w (wr.setCell ⟨B,0,none⟩ (vtake (.slice a L c) (tl vs vs.length))))):=fin
 clear fin;go_enter Tryz.func188,Tryz.ntmps188;go_wp2
 go_loopw [13,4] (fun s cr wr=>∃ (i:Nat) (C:Int) (vs:List Int),i≤L∧s=.int .i64 i∧cr=.int .u64 C∧0≤C∧C≤1∧Hid (vs.length=L)∧Own base wr (.slice a L c) vs∧Box wr B ty (.slice a L c)∧Below base w wr∧Hid (val vs - C*pw i=val xs - val (ys.take i)))
  (fun s _ _=>L - (intOf s).toNat)
 case atStart=>exact ⟨0,0,xs,Nat.zero_le _,rfl,rfl,by omega,by omega,hxl,hown,hbox,Below.refl _ _,by unfold Hid;simp [val]⟩
 case round=>
  obtain ⟨i,C,vs,hiL,rfl,rfl,hC0,hC1,hvl,hown3,hbox3,hbl3,hval3⟩:=hrel;have hc3:=cell_of_one hbox3;clear hc hbox hown;by_cases hlt2:i<L
  · rcases hown3.shape with ⟨hnil,hnil2⟩ | ⟨g,cap,hv,hgb,hgs,_,_⟩
    · have:=hvl.out;rw [hnil2] at this;simp at this;omega
    have ha2:a=some ⟨g,0,none⟩:=by
     have:=congrArg (fun v:Value=>match v with | .slice a _ _=>a | _=>none) hv
     exact this
    clear hv;subst ha2;have hcv:=hown3.cellAt hvl.out i hlt2;have hfv:=hown3.frozenAt hvl.out i;have rv:=lim_getD hown3.lim i;have hneB:=own_box_ne hbox3 hown3 hty;have hneB':g≠B:=fun e=>hneB (by rw [e];rfl);generalize hV:vs.getD i 0=V at *;have HV:Hid (vs.getD i 0=V):=hV;clear hV;by_cases him:i<m
    · obtain ⟨gb,ob,hba,hgb2,hbc⟩:=kb (by omega)
      subst hba;have hcy:wr.cell? ⟨gb,ob+i,none⟩=some (.int .u32 (ys.getD i 0)):=(hbl3.cell hgb2).trans (hbc i him);have ry:=lim_getD ly i;generalize hY:ys.getD i 0=Y at *;have HY:Hid (ys.getD i 0=Y):=hY;clear hY hbc kb;obtain ⟨T,z,c',eT,t0,t1,ez,ec,c0,c1,zr,heq⟩:=less_word V C Y rv ⟨hC0,hC1⟩ ry;have HEQ:Hid (V - C - Y=z - c'*4294967296):=heq;have hS:=hown3.stored hvl.out i z zr;clear heq;go_wp2
      go_roundw
      case rel=>exact ⟨i+1,c',vs.set i z,by omega,by go_num,rfl,c0,c1,(by unfold Hid;rw [List.length_set];exact hvl.out),hS,box_set hbox3 hneB' _ _,hbl3.setCell hgb _,less_step vs ys i C (val xs) z c' (by rw [hvl.out];exact hlt2) hval3.out (by rw [HV.out,HY.out];exact HEQ.out)⟩
      case measure=>simp [intOf];omega
    · have hY0:ys.getD i 0=0:=by simp [List.getD,List.getElem?_eq_none (show ys.length≤i by rw [hy.out];omega)]
      have HY:Hid (ys.getD i 0=0):=hY0;clear hY0 kb;by_cases hC:C=0
      · subst hC
        have hfin:val vs=val xs - val ys:=by
         have h3:=hval3.out;rw [List.take_of_length_le (show ys.length≤i by rw [hy.out];omega)] at h3;rw [← h3];simp
        have F:=FIN.out vs wr hvl hown3 hbox3 hbl3 hfin;clear FIN hfin hcv hfv
        go_wp2_with fail
        refine (trimM_any hbox3 hown3.rd).mono ?_;rintro e w2 ⟨rfl,rfl⟩;go_wp2
        go_end0
        exact ⟨rfl,F⟩
      · have hCb:(C==0)=false:=by simpa using hC
        obtain ⟨T,z,c',eT,t0,t1,ez,ec,c0,c1,zr,heq⟩:=less_word V C 0 rv ⟨hC0,hC1⟩ ⟨by omega,by omega⟩;have HEQ:Hid (V - C - 0=z - c'*4294967296):=heq;have eT':IntKind.u64.wrap (V - C)=T:=by rw [← eT,Int.sub_zero];simp only [IntKind.wrap_u64];omega
        have hS:=hown3.stored hvl.out i z zr;clear heq eT;go_wp2
        go_roundw
        case rel=>exact ⟨i+1,c',vs.set i z,by omega,by go_num,rfl,c0,c1,(by unfold Hid;rw [List.length_set];exact hvl.out),hS,box_set hbox3 hneB' _ _,hbl3.setCell hgb _,less_step vs ys i C (val xs) z c' (by rw [hvl.out];exact hlt2) hval3.out (by rw [HV.out,HY.out];exact HEQ.out)⟩
        case measure=>simp [intOf];omega
  · obtain rfl:i=L:=by omega
    have hfin:val vs=val xs - val ys:=by
     have h3:=hval3.out;rw [List.take_of_length_le (show ys.length≤i by rw [hy.out];omega)] at h3;have h4:=(val_bound hown3.lim).2;rw [hvl.out] at h4;have h5:=hge.out;have hc01:C=0∨C=1:=by omega
     rcases hc01 with rfl | rfl
     · simpa using h3
     · simp only [Int.one_mul] at h3;omega
    have F:=FIN.out vs wr hvl hown3 hbox3 hbl3 hfin;clear FIN hfin kb
    go_wp2_with fail
    refine (trimM_any hbox3 hown3.rd).mono ?_;rintro e w2 ⟨rfl,rfl⟩;go_wp2
    go_end0
    exact ⟨rfl,F⟩
theorem can_len_le {xs ys:List Int} (hx:can xs) (hy:can ys) (h:val ys≤val xs):ys.length≤xs.length:=by
 by_cases hl:ys.length≤xs.length
 · exact hl
 · have:=can_len_lt hx hy (by omega);omega
/-- (*subtractor).less: the difference, right limbs. -/
theorem less_any {base B ty Br:Nat} {w:World} {bv:Value} {xs ys:List Int} (hty:ty≠92) (hs:St base w B ty xs) (cx:can xs) (hb:Rd Br w bv ys) (cy:can ys) (hBr:Br≤base) (hn:xs.length≤17592186044415) (hge:val ys≤val xs) :
    Calls Tryz.prog 188 #[.pointer (some ⟨B,0,none⟩),bv] w fun e w'=>e=.returned (.tuple #[])∧∃ zs,can zs∧val zs=val xs - val ys∧zs.length≤xs.length∧St base w' B ty zs∧Below base w w':=by
 obtain ⟨a,c,hbox,hown,hBb,hbs⟩:=hs;obtain ⟨ly,ba,bc,rfl,_,_,_,kb⟩:=hb;have hml:=can_len_le cx cy hge;refine less_walk a c xs.length ys.length bc ba rfl rfl ly hty hbox hown hBb hbs hn (by omega) hge hml ?_;intro h0;rcases kb with kb | ⟨g,o,ha,hg,hc⟩
 · omega
 · exact ⟨g,o,ha,by omega,hc⟩
/-- What nat.Minus hands back. -/
def Minuses (w:World) (n:Int) (e:Ending) (w':World):Prop:=
 Below w.heap.size w w'∧if n<0 then e=.returned (.tuple #[.slice none 0 0,.bool false]) else ∃ zs a c,can zs∧val zs=n∧e=.returned (.tuple #[.slice a zs.length c,.bool true])∧Own w.heap.size w' (.slice a zs.length c) zs
theorem minus_any {B1 B2:Nat} {w:World} {v1 v2:Value} {xs ys:List Int} (h1:Rd B1 w v1 xs) (hB1:B1≤w.heap.size) (h2:Rd B2 w v2 ys) (hB2:B2≤w.heap.size) (hn:xs.length≤17592186044415) :
    Calls Tryz.prog 177 #[v1,v2] w fun e w'=>Minuses w (val xs - val ys) e w'∧(val ys≤val xs→∃ zs a c,zs.length≤xs.length∧can zs∧val zs=val xs - val ys∧e=.returned (.tuple #[.slice a zs.length c,.bool true])∧Own w.heap.size w' (.slice a zs.length c) zs):=by
 by_cases hlt:val xs<val ys
 · have hcm:=cmpI_lt hlt
   go_enter Tryz.func177,Tryz.ntmps177
   go_wp2_with fail
   refine (compare_bl h1 h2).mono ?_;rintro e wa ⟨rfl,ba⟩;rw [hcm];go_wp2
   go_ret2
   refine ⟨⟨ba,?_⟩,fun h=>by omega⟩;rw [if_pos (by omega)];rfl
 · obtain ⟨cm,hcm,hcm0⟩:∃ cm,cmpI (val xs) (val ys)=cm∧0≤cm:=by
    by_cases he:val xs=val ys
    · exact ⟨0,cmpI_eq he,by omega⟩
    · exact ⟨1,cmpI_gt (by omega),by omega⟩
   have ht:=h2.meant;go_enter Tryz.func177,Tryz.ntmps177
   go_wp2_with fail
   refine (compare_bl h1 h2).mono ?_;rintro e wa ⟨rfl,ba⟩;rw [hcm];have sa:=ba.size;have h1a:=h1.below (ba.mono hB1);have h2a:=h2.below (ba.mono hB2);have hta:=ht.below (ba.mono hB2);have HLT:Hid (val ys≤val xs):=by unfold Hid;omega
   clear hlt hcm
   go_wp2_with fail
   refine (begin_any h1a (by omega) (by omega)).mono ?_;intro e w1 hm1;obtain ⟨a,c,rfl,ho,hb⟩:=hm1;have hz:=hb.size;have hl2:=tr_length_le xs;have cx:=tr_can h1.lim;have hvx:=val_tr xs;generalize tr xs=xs' at *;have HVX:Hid (val xs'=val xs):=hvx;clear hvx;have hst:St wa.heap.size (w1.alloc (.cells #[.slice a xs'.length c] 200)) w1.heap.size 200 xs':=⟨a,c,heap_alloc_new _ _,ho.alloc _,hz,by simp;omega⟩;have bq:Below wa.heap.size wa (w1.alloc (.cells #[.slice a xs'.length c] 200)):=hb.alloc hz _;have h2b:=h2a.below (bq.mono (by omega))
   go_wp2_with fail
   refine (meant_rd h2b).mono ?_;rintro e w' ⟨rfl,rfl⟩
   go_wp2_with fail
   refine (less_any (by decide) hst cx h2b.meant (tr_can h2.lim) (by omega) (by omega) (by rw [val_tr,HVX.out];have:=HLT.out;omega)).mono ?_;rintro e w2 ⟨rfl,zs,cz,vz,lz,⟨a3,c3,hbox3,hown3,_,hbs3⟩,hbl2⟩;have hc3:=cell_of_one hbox3;have hlt3:=lt_of_block hbox3;rw [val_tr,HVX.out] at vz;have HVZ:Hid (val zs=val xs - val ys):=vz;clear vz;go_wp2
   go_ret2
   have hbw:Below w.heap.size w w2:=ba.trans ((bq.trans hbl2).mono sa);have ho2:=hown3.mono (base':=w.heap.size) sa;refine ⟨⟨hbw,?_⟩,fun _=>⟨zs,a3,c3,by omega,cz,HVZ.out,rfl,ho2⟩⟩;rw [if_neg (by have:=HLT.out;omega)];exact ⟨zs,a3,c3,cz,HVZ.out,rfl,ho2⟩
theorem right_pos {b:Bool} {ns ds:List Int} (h:RightP b ns ds):0<val ds∧0≤val ns:=by
 have h1:=can_low h.2.2.2.1 h.2.2.2.2.2.1;have h2:=pw_pos (ds.length - 1);exact ⟨by omega,(val_bound h.2.2.1.1).1⟩
theorem below_alloc (w:World) (o:Obj):Below w.heap.size w (w.alloc o):=(Below.refl _ _).alloc (Nat.le_refl _) _
section
variable {B:Nat} {w:World} {bx cy:Bool} {a1 a2 a3 a4:Option Addr} {c1 c2 c3 c4:Nat} {xn xd yn yd:List Int}
end
section
variable {B Lb:Nat} {w:World} {bx cy:Bool} {a1 a2 a3 a4:Option Addr} {c1 c2 c3 c4:Nat} {xn xd yn yd:List Int}
end
section
variable {B Lb:Nat} {w:World} {bx cy:Bool} {a1 a2 a3 a4:Option Addr} {c1 c2 c3 c4:Nat} {xn xd yn yd:List Int}
end
end Go.Proofs.YtheaeggecpfcbaaGreat
