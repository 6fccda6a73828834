/- rat.Binomial of every two numbers. -/
import Derived.Test.YtilbfkabfgnhpaaGreatU1
import Derived.Test.YtilbfkabfgnhpaaGreatK7
set_option maxRecDepth 100000
set_option maxHeartbeats 16000000
set_option linter.unusedVariables false
set_option linter.unusedSimpArgs false
namespace Go.Proofs.YtilbfkabfgnhpaaGreat
open Go.RowKit
/-- What a number of sets answers: N of them. -/
def CountSpec (P C:Prop) (N:Nat) (b:Bool) (ns ds:List Int) (err:Int):Prop:=
 (¬ P∧err=22∧b=false∧ns=[]∧ds=[])∨(P∧¬ C∧err=3∧b=false∧ns=[]∧ds=[])∨(P∧C∧pw 32≤(N:Int)∧err=8∧b=false∧ns=[]∧ds=[])∨(P∧C∧(N:Int)<pw 32∧err=0∧b=false∧can ns∧val ns=(N:Int)∧ds=[1])
theorem CountSpec.unique {P C:Prop} {N:Nat} {b c:Bool} {ns ds ms es:List Int} {e f:Int} (h:CountSpec P C N b ns ds e) (k:CountSpec P C N c ms es f):c=b∧ms=ns∧es=ds∧f=e:=by
 rcases h with ⟨hp,rfl,rfl,rfl,rfl⟩ | ⟨hp,hc,rfl,rfl,rfl,rfl⟩ | ⟨hp,hc,h1,rfl,rfl,rfl,rfl⟩ | ⟨hp,hc,h1,rfl,rfl,cn,vn,rfl⟩ <;> rcases k with ⟨kp,rfl,rfl,rfl,rfl⟩ | ⟨kp,kc,rfl,rfl,rfl,rfl⟩ | ⟨kp,kc,k1,rfl,rfl,rfl,rfl⟩ | ⟨kp,kc,k1,rfl,rfl,cm,vm,rfl⟩
 all_goals first | exact ⟨rfl,rfl,rfl,rfl⟩ | exact absurd kp hp | exact absurd hp kp | exact absurd kc hc | exact absurd hc kc | (exfalso;omega) | exact ⟨rfl,can_inj cm cn (by rw [vn,vm]),rfl,rfl⟩
section
variable {w:World} {bx cy:Bool} {a1 a2 a3 a4:Option Addr} {c1 c2 c3 c4:Nat} {xn xd yn yd:List Int}
theorem binomial_err (h1:Rd w.heap.size w (.slice a1 xn.length c1) xn) (h2:Rd w.heap.size w (.slice a2 xd.length c2) xd) (h3:Rd w.heap.size w (.slice a3 yn.length c3) yn) (h4:Rd w.heap.size w (.slice a4 yd.length c4) yd) (hno:Hid (¬ ((RightP bx xn xd∧RightP cy yn yd)∧IsCount bx xd∧IsCount cy yd))) :
    Calls Tryz.prog 96 #[.agg #[.bool bx,.slice a1 xn.length c1,.slice a2 xd.length c2],.agg #[.bool cy,.slice a3 yn.length c3,.slice a4 yd.length c4]] w fun e w'=>∃ b ns ds err,Hid (CountSpec (RightP bx xn xd∧RightP cy yn yd) (IsCount bx xd∧IsCount cy yd) (binom (val yn).toNat (val xn).toNat) b ns ds err)∧RAns w b ns ds err e w':=by
 have I:=in2_new w (.bool bx) (.slice a1 xn.length c1) (.slice a2 xd.length c2) (.bool cy) (.slice a3 yn.length c3) (.slice a4 yd.length c4);go_enter Tryz.func96,Tryz.ntmps96
 go_wp2_with fail
 generalize hA:((((w.alloc (.cells #[.bool bx,.slice a1 xn.length c1,.slice a2 xd.length c2] 24)).alloc (.cells #[.bool cy,.slice a3 yn.length c3,.slice a4 yd.length c4] 24)).alloc (.cells #[.bool false,.slice none 0 0,.slice none 0 0] 24)).alloc (.cells #[.bool bx,.slice a1 xn.length c1,.slice a2 xd.length c2,.bool cy,.slice a3 yn.length c3,.slice a4 yd.length c4] 24))=v0 at *;clear hA;obtain ⟨hX,hY,hR,hT,g,s0⟩:=I;have X:NVar v0 w.heap.size bx a1 xn c1 a2 xd c2:=⟨by omega,hX,(h1.below g).mono g.size,(h2.below g).mono g.size⟩;have Y:NVar v0 (w.heap.size+1) cy a3 yn c3 a4 yd c4:=⟨by omega,hY,(h3.below g).mono g.size,(h4.below g).mono g.size⟩;have R:RVar v0 (w.heap.size+1+1):=⟨by omega,hR⟩;have sr:w.heap.size≤w.heap.size+1+1:=by omega
 clear hX hY hR h1 h2 h3 h4 s0;refine (allRight2 hT X.rn X.rd Y.rn Y.rd (Nat.le_refl _)).mono ?_;rintro e w0 ⟨⟨r,rfl,hr⟩,k0⟩;replace X:=X.below k0;replace Y:=Y.below k0;replace R:=R.below k0;replace g:=g.trans (k0.mono g.size);clear hT k0
 cases r with
 | false=>
  have HP:Hid (¬ (RightP bx xn xd∧RightP cy yn yd)):=fun h=>by have:=hr.2 h;cases this
  clear hr;have q0:=R.box.c0;have q1:=R.box.c1;have q2:=R.box.c2;have p0:=R.box.f0;have p1:=R.box.f1;have p2:=R.box.f2;go_wp2
  have hR3:=R.box.set (.bool false) (.slice none 0 0) (.slice none 0 0);have r0:=hR3.c0;have r1:=hR3.c1;have r2:=hR3.c2;refine bodyPost_ret (v:=.tuple #[.agg #[.bool false,.slice none 0 0,.slice none 0 0],.int .i64 22]) (by simp [results,Tryz.results96,go_sem,r0,r1,r2]) rfl ?_;exact ⟨false,[],[],22,Or.inl ⟨HP.out,rfl,rfl,rfl,rfl⟩,Below.set3 g sr _ _ _,none,0,none,0,rfl,nil_rd _,nil_rd _⟩
 | true=>
  have HP:Hid (RightP bx xn xd∧RightP cy yn yd):=hr.1 rfl;clear hr;obtain ⟨X0,X1,X2⟩:=X.cells;obtain ⟨Y0,Y1,Y2⟩:=Y.cells
  go_wp2_with fail
  clear X0 X1 X2 Y0 Y1 Y2;refine (isCount_any X.rn X.rd).mono ?_;rintro e w1 ⟨⟨r,rfl,hr⟩,k1⟩;replace X:=X.below k1;replace Y:=Y.below k1;replace R:=R.below k1;replace g:=g.trans (k1.mono g.size);clear k1
  cases r with
  | false=>
   have HC:Hid (¬ IsCount bx xd):=fun h=>by have:=hr.2 h;cases this
   clear hr;have q0:=R.box.c0;have q1:=R.box.c1;have q2:=R.box.c2;have p0:=R.box.f0;have p1:=R.box.f1;have p2:=R.box.f2;go_wp2
   have hR3:=R.box.set (.bool false) (.slice none 0 0) (.slice none 0 0);have r0:=hR3.c0;have r1:=hR3.c1;have r2:=hR3.c2;refine bodyPost_ret (v:=.tuple #[.agg #[.bool false,.slice none 0 0,.slice none 0 0],.int .i64 3]) (by simp [results,Tryz.results96,go_sem,r0,r1,r2]) rfl ?_;exact ⟨false,[],[],3,Or.inr (Or.inl ⟨HP.out,fun h=>HC.out h.1,rfl,rfl,rfl,rfl⟩),Below.set3 g sr _ _ _,none,0,none,0,rfl,nil_rd _,nil_rd _⟩
  | true=>
   have HC:Hid (IsCount bx xd):=hr.1 rfl;clear hr;obtain ⟨X0,X1,X2⟩:=X.cells;obtain ⟨Y0,Y1,Y2⟩:=Y.cells
   go_wp2_with fail
   clear X0 X1 X2 Y0 Y1 Y2;refine (isCount_any Y.rn Y.rd).mono ?_;rintro e w2 ⟨⟨r,rfl,hr⟩,k2⟩;replace X:=X.below k2;replace Y:=Y.below k2;replace R:=R.below k2;replace g:=g.trans (k2.mono g.size);clear k2
   cases r with
   | false=>
    have HD:Hid (¬ IsCount cy yd):=fun h=>by have:=hr.2 h;cases this
    clear hr;have q0:=R.box.c0;have q1:=R.box.c1;have q2:=R.box.c2;have p0:=R.box.f0;have p1:=R.box.f1;have p2:=R.box.f2;go_wp2
    have hR3:=R.box.set (.bool false) (.slice none 0 0) (.slice none 0 0);have r0:=hR3.c0;have r1:=hR3.c1;have r2:=hR3.c2;refine bodyPost_ret (v:=.tuple #[.agg #[.bool false,.slice none 0 0,.slice none 0 0],.int .i64 3]) (by simp [results,Tryz.results96,go_sem,r0,r1,r2]) rfl ?_;exact ⟨false,[],[],3,Or.inr (Or.inl ⟨HP.out,fun h=>HD.out h.2,rfl,rfl,rfl,rfl⟩),Below.set3 g sr _ _ _,none,0,none,0,rfl,nil_rd _,nil_rd _⟩
   | true=>
    exact absurd ⟨HP.out,HC.out,hr.1 rfl⟩ hno.out
theorem binomial_rat (h1:Rd w.heap.size w (.slice a1 xn.length c1) xn) (h2:Rd w.heap.size w (.slice a2 xd.length c2) xd) (h3:Rd w.heap.size w (.slice a3 yn.length c3) yn) (h4:Rd w.heap.size w (.slice a4 yd.length c4) yd) :
    Calls Tryz.prog 96 #[.agg #[.bool bx,.slice a1 xn.length c1,.slice a2 xd.length c2],.agg #[.bool cy,.slice a3 yn.length c3,.slice a4 yd.length c4]] w fun e w'=>∃ b ns ds err,Hid (CountSpec (RightP bx xn xd∧RightP cy yn yd) (IsCount bx xd∧IsCount cy yd) (binom (val yn).toNat (val xn).toNat) b ns ds err)∧RAns w b ns ds err e w':=by
 by_cases hc:(RightP bx xn xd∧RightP cy yn yd)∧IsCount bx xd∧IsCount cy yd
 · obtain ⟨⟨rx,ry⟩,cx,cc⟩:=hc
   obtain ⟨dx,hb⟩:=cx;obtain ⟨dy,hb2⟩:=cc;subst hb hb2;have px:=(right_pos rx).2;have py:=(right_pos ry).2;refine (binomial_any h1 h2 h3 h4 ⟨rx,dx⟩ ⟨ry,dy⟩ (val xn).toNat (val yn).toNat (show val xn=_ by omega) (show val yn=_ by omega)).mono ?_;rintro e w' ⟨hb,⟨hg,he⟩ | ⟨hf,zs,ds,z1,z2,z3,z4,cz,vz,hd,he,on,od⟩⟩
   · exact ⟨false,[],[],8,Or.inr (Or.inr (Or.inl ⟨⟨rx,ry⟩,⟨⟨dx,rfl⟩,⟨dy,rfl⟩⟩,hg,rfl,rfl,rfl,rfl⟩)),hb,none,0,none,0,he,nil_rd _,nil_rd _⟩
   · exact ⟨false,zs,ds,0,Or.inr (Or.inr (Or.inr ⟨⟨rx,ry⟩,⟨⟨dx,rfl⟩,⟨dy,rfl⟩⟩,hf,rfl,rfl,cz,vz,hd.out⟩)),hb,z1,z2,z3,z4,he,on.rd,od.rd⟩
 · exact binomial_err h1 h2 h3 h4 hc
end
theorem and_one_u32 (x:Int) (h0:0≤x) (h1:x<4294967296):bits .and .u32 x 1=x % 2:=
 bits_mask .u32 32 (by decide) (fun n a b=>by rw [IntKind.wrap_u32];omega) 1 (by decide) x h0 (by omega)
theorem rd_head {B:Nat} {w:World} {a:Option Addr} {c:Nat} {xs:List Int} (h:Rd B w (.slice a xs.length c) xs) (h0:0<xs.length):∃ pb po,a=some ⟨pb,po,none⟩∧xs.length≤c∧c≤9223372036854775807:=by
 obtain ⟨_,a',c',e,h1,h2,_,h3⟩:=h;have ea:a'=a∧c'=c:=by cases e;exact ⟨rfl,rfl⟩
 obtain ⟨rfl,rfl⟩:=ea;rcases h3 with h3 | ⟨b,o,rfl,_,_⟩
 · omega
 · exact ⟨b,o,rfl,h1,h2⟩
theorem rd_cell0 {B pb po:Nat} {w:World} {c:Nat} {xs:List Int} (h:Rd B w (.slice (some ⟨pb,po,none⟩) xs.length c) xs) (h0:0<xs.length):w.cell? ⟨pb,po,none⟩=some (.int .u32 (xs.getD 0 0)):=by
 obtain ⟨_,a',c',e,_,_,_,h3⟩:=h;have ea:a'=some ⟨pb,po,none⟩:=by cases e;rfl
 subst ea;rcases h3 with h3 | ⟨b,o,e2,_,k⟩
 · omega
 · have eb:b=pb∧o=po:=by cases e2;exact ⟨rfl,rfl⟩
   obtain ⟨rfl,rfl⟩:=eb;exact k 0 h0
theorem val_odd {xs:List Int} (h:lim xs):val xs % 2=xs.getD 0 0 % 2∧0≤xs.getD 0 0∧xs.getD 0 0<4294967296:=by
 match xs with
 | []=>exact ⟨by decide,by decide,by decide⟩
 | x :: t=>
  have hx:=h x (by simp);refine ⟨?_,?_,?_⟩
  · simp only [val,List.getD_cons_zero];omega
  · simpa using hx.1
  · simpa using hx.2
theorem sg_pow (b:Bool) (x:Int) (N:Nat):sg b x ^ N=sg (b && decide (N % 2=1)) (x ^ N):=by
 cases b with
 | false=>simp [sg]
 | true=>
  induction N with
  | zero=>simp [sg]
  | succ N ih=>
   rw [Int.pow_succ,ih,Int.pow_succ];have e:∀ y:Int,sg true y = -y:=fun y=>rfl;by_cases h:N % 2=1
   · have h2:¬ (N+1) % 2=1:=by omega
     simp only [h,h2,decide_true,decide_false,Bool.and_true,Bool.and_false,e,sg_false];rw [Int.neg_mul_neg]
   · have h2:(N+1) % 2=1:=by omega
     simp only [h,h2,decide_true,decide_false,Bool.and_true,Bool.and_false,e,sg_false];rw [Int.mul_neg]
theorem gI_pow {x y:Int} (hx:0≤x) (hy:0≤y) (h:gI x y=1) (N:Nat):gI (x ^ N) (y ^ N)=1:=by
 obtain ⟨a,rfl⟩:=Int.eq_ofNat_of_zero_le hx;obtain ⟨b,rfl⟩:=Int.eq_ofNat_of_zero_le hy;unfold gI at *;have e:∀ c:Nat,((c:Int) ^ N).toNat=c ^ N:=fun c=>by rw [← Int.natCast_pow];exact Int.toNat_natCast _
 rw [e,e];simp only [Int.toNat_natCast] at h;have h1:Nat.Coprime a b:=by unfold Nat.Coprime;omega
 have h2:Nat.gcd (a ^ N) (b ^ N)=1:=Nat.Coprime.pow N N h1;rw [h2];rfl
theorem pow_right {b:Bool} {zs us:List Int} {A D:Int} {N:Nat} (cz:can zs) (cu:can us) (vz:val zs=A ^ N) (vu:val us=D ^ N) (hA:0≤A) (hD:0<D) (hg:gI A D=1) (lz:A ^ N<pw 32) (lu:D ^ N<pw 32) :
    RightP (b && decide (0<zs.length)) zs us∧zs.length≤32∧us.length≤32∧sg (b && decide (0<zs.length)) (val zs)=sg b (A ^ N):=by
 have l1:zs.length≤32:=by rw [can_len_pw cz,vz];exact lz
 have l2:us.length≤32:=by rw [can_len_pw cu,vu];exact lu
 have hDp:0<D ^ N:=Int.pow_pos hD;have hus:0<us.length:=by
  by_cases h:us.length=0
  · have:=(can_zero cu).1 h
    omega
  · omega
 refine ⟨⟨l1,l2,cz,cu,?_,hus,by rw [vz,vu];exact gI_pow hA (Int.le_of_lt hD) hg N⟩,l1,l2,?_⟩
 · rintro ⟨h,hz⟩
   rw [decide_eq_false (by omega),Bool.and_false] at h
   cases h
 · by_cases h:0<zs.length
   · rw [decide_eq_true h,Bool.and_true,vz]
   · have h2:=(can_zero cz).1 (by omega)
     rw [h2,sg_zero,← vz,h2,sg_zero]
/-- The size ahead, and the size below, of a power. -/
def pnum (c:Bool) (xn xd:List Int):Int:=if c=true then val xd else val xn
def pden (c:Bool) (xn xd:List Int):Int:=if c=true then val xn else val xd
/-- What rat.Power answers. -/
def Pows (w':World) (k:Nat) (P:Prop) (bx:Bool) (xn xd:List Int) (cy:Bool) (yn yd:List Int) (b:Bool) (x1:Option Addr) (n y1:Nat) (x2:Option Addr) (m y2:Nat) (err:Int):Prop:=
 (¬ P∧err=22∧b=false∧x1=none∧n=0∧y1=0∧x2=none∧m=0∧y2=0) ∨
 (P∧(¬ yd=[1]∨(yd=[1]∧0<yn.length∧xn.length=0∧cy=true))∧err=3∧b=false∧x1=none∧n=0∧y1=0∧x2=none∧m=0∧y2=0) ∨
 (P∧yd=[1]∧0<yn.length∧¬ (xn.length=0∧cy=true)∧err=8∧b=false∧x1=none∧n=0∧y1=0∧x2=none∧m=0∧y2=0∧(pw 32≤pnum cy xn xd ^ (val yn).toNat∨pw 32≤pden cy xn xd ^ (val yn).toNat)) ∨
 (P∧yd=[1]∧¬ (0<yn.length∧xn.length=0∧cy=true)∧err=0∧pnum cy xn xd ^ (val yn).toNat<pw 32∧pden cy xn xd ^ (val yn).toNat<pw 32∧∃ ns ds,n=ns.length∧m=ds.length∧Own k w' (.slice x1 n y1) ns∧Own k w' (.slice x2 m y2) ds∧RightP b ns ds∧sg b (val ns)=sg bx (pnum cy xn xd) ^ (val yn).toNat∧val ds=pden cy xn xd ^ (val yn).toNat)
def PowsGive (w:World) (P:Prop) (bx:Bool) (xn xd:List Int) (cy:Bool) (yn yd:List Int) (e:Ending) (w':World):Prop:=
 Below w.heap.size w w'∧∃ b x1 n y1 x2 m y2 err,e=.returned (.tuple #[.agg #[.bool b,.slice x1 n y1,.slice x2 m y2],.int .i64 err])∧Hid (Pows w' w.heap.size P bx xn xd cy yn yd b x1 n y1 x2 m y2 err)
section
variable {w:World} {bx cy:Bool} {a1 a2 a3 a4:Option Addr} {c1 c2 c3 c4:Nat} {xn xd yn yd:List Int}
theorem power_rat (h1:Rd w.heap.size w (.slice a1 xn.length c1) xn) (h2:Rd w.heap.size w (.slice a2 xd.length c2) xd) (h3:Rd w.heap.size w (.slice a3 yn.length c3) yn) (h4:Rd w.heap.size w (.slice a4 yd.length c4) yd) :
    Calls Tryz.prog 95 #[.agg #[.bool bx,.slice a1 xn.length c1,.slice a2 xd.length c2],.agg #[.bool cy,.slice a3 yn.length c3,.slice a4 yd.length c4]] w fun e w'=>PowsGive w (RightP bx xn xd∧RightP cy yn yd) bx xn xd cy yn yd e w':=by
 have I:=in2_new w (.bool bx) (.slice a1 xn.length c1) (.slice a2 xd.length c2) (.bool cy) (.slice a3 yn.length c3) (.slice a4 yd.length c4);go_enter Tryz.func95,Tryz.ntmps95
 go_wp2_with fail
 generalize hA:((((w.alloc (.cells #[.bool bx,.slice a1 xn.length c1,.slice a2 xd.length c2] 24)).alloc (.cells #[.bool cy,.slice a3 yn.length c3,.slice a4 yd.length c4] 24)).alloc (.cells #[.bool false,.slice none 0 0,.slice none 0 0] 24)).alloc (.cells #[.bool bx,.slice a1 xn.length c1,.slice a2 xd.length c2,.bool cy,.slice a3 yn.length c3,.slice a4 yd.length c4] 24))=v0 at *;clear hA;obtain ⟨hX,hY,hR,hT,g,s0⟩:=I;have X:NVar v0 w.heap.size bx a1 xn c1 a2 xd c2:=⟨by omega,hX,(h1.below g).mono g.size,(h2.below g).mono g.size⟩;have Y:NVar v0 (w.heap.size+1) cy a3 yn c3 a4 yd c4:=⟨by omega,hY,(h3.below g).mono g.size,(h4.below g).mono g.size⟩;have R:RVar v0 (w.heap.size+1+1):=⟨by omega,hR⟩;have s1:w.heap.size≤w.heap.size+1+1:=by omega
 clear hX hY hR h1 h2 h3 h4 s0;refine (allRight2 hT X.rn X.rd Y.rn Y.rd (Nat.le_refl _)).mono ?_;rintro e w0 ⟨⟨r,rfl,hr⟩,k0⟩;replace X:=X.below k0;replace Y:=Y.below k0;replace R:=R.below k0;replace g:=g.trans (k0.mono g.size);clear hT k0
 cases r with
 | false=>
  have HP:Hid (¬ (RightP bx xn xd∧RightP cy yn yd)):=fun h=>by have:=hr.2 h;cases this
  clear hr;have q0:=R.box.c0;have q1:=R.box.c1;have q2:=R.box.c2;have p0:=R.box.f0;have p1:=R.box.f1;have p2:=R.box.f2;go_wp2
  have hR3:=R.box.set (.bool false) (.slice none 0 0) (.slice none 0 0);have r0:=hR3.c0;have r1:=hR3.c1;have r2:=hR3.c2;refine bodyPost_ret (v:=.tuple #[.agg #[.bool false,.slice none 0 0,.slice none 0 0],.int .i64 22]) (by simp [results,Tryz.results95,go_sem,r0,r1,r2]) rfl ?_;exact ⟨Below.set3 g s1 _ _ _,false,none,0,0,none,0,0,22,rfl,Or.inl ⟨HP.out,rfl,rfl,rfl,rfl,rfl,rfl,rfl,rfl⟩⟩
 | true=>
  have HP:Hid (RightP bx xn xd∧RightP cy yn yd):=hr.1 rfl;clear hr;obtain ⟨Y0,Y1,Y2⟩:=Y.cells
  go_wp2_with fail
  clear Y0 Y1 Y2;refine (isOne_any Y.rd).mono ?_;rintro e w1 ⟨rfl,rfl⟩;by_cases hone:yd=[1]
  · have HO:Hid (yd=[1]):=hone
    rw [decide_eq_true hone];clear hone;by_cases hy0:0<yn.length
    · have hyb:((yn.length:Int)==0)=false:=by rw [beq_eq_false_iff_ne];omega
      by_cases hxz:xn.length=0∧cy=true
      · obtain ⟨hx0,rfl⟩:=hxz
        have hxb:((xn.length:Int)==0)=true:=by rw [hx0];rfl
        have Hx:Hid (xn.length=0):=hx0;clear hx0;obtain ⟨X0,X1,X2⟩:=X.cells;obtain ⟨Y0,Y1,Y2⟩:=Y.cells;have q0:=R.box.c0;have q1:=R.box.c1;have q2:=R.box.c2;have p0:=R.box.f0;have p1:=R.box.f1;have p2:=R.box.f2;go_wp2
        have hR3:=R.box.set (.bool false) (.slice none 0 0) (.slice none 0 0);have r0:=hR3.c0;have r1:=hR3.c1;have r2:=hR3.c2;refine bodyPost_ret (v:=.tuple #[.agg #[.bool false,.slice none 0 0,.slice none 0 0],.int .i64 3]) (by simp [results,Tryz.results95,go_sem,r0,r1,r2]) rfl ?_;exact ⟨Below.set3 g s1 _ _ _,false,none,0,0,none,0,0,3,rfl,Or.inr (Or.inl ⟨HP.out,Or.inr ⟨HO.out,hy0,Hx.out,rfl⟩,rfl,rfl,rfl,rfl,rfl,rfl,rfl,rfl⟩)⟩
      · have HXZ:Hid (¬ (xn.length=0∧cy=true)):=hxz
        have hcs:(cy=true∧((xn.length:Int)==0)=false)∨(cy=false∧((xn.length:Int)==0)=false)∨(cy=false∧((xn.length:Int)==0)=true):=by
         cases cy with
         | false=>
          cases hh:((xn.length:Int)==0) with
          | false=>exact Or.inr (Or.inl ⟨rfl,rfl⟩)
          | true=>exact Or.inr (Or.inr ⟨rfl,rfl⟩)
         | true=>refine Or.inl ⟨rfl,?_⟩;rw [beq_eq_false_iff_ne];intro h;exact hxz ⟨rfl.mp (by omega),rfl⟩
        have HXZ2:Hid (¬ (0<yn.length∧xn.length=0∧cy=true)):=fun h=>hxz h.2;clear hxz;have HYv:Hid (0<val yn):=by
         have h5:=can_low HP.out.2.2.2.1 hy0;have h6:=pw_pos (yn.length - 1);unfold Hid;omega
        have l1:=HP.out.1.1;have l2:=HP.out.1.2.1;have l3:=HP.out.2.1;obtain ⟨pb,po,rfl,hyc,hym⟩:=rd_head Y.rn hy0;have ho:=val_odd HP.out.2.2.2.1.1;have hw1:=and_one_u32 (yn.getD 0 0) ho.2.1 ho.2.2;have HOd:Hid ((yn.getD 0 0 % 2==1)=decide ((val yn).toNat % 2=1)):=by
         unfold Hid;have h5:=HYv.out;by_cases h6:yn.getD 0 0 % 2=1
         · rw [beq_iff_eq.2 h6,decide_eq_true (by omega)]
         · rw [beq_eq_false_iff_ne.2 h6,decide_eq_false (by omega)]
        clear ho;generalize hy00:yn.getD 0 0=y00 at *;rcases hcs with ⟨rfl,hxb⟩ | ⟨rfl,hxb⟩ | ⟨rfl,hxb⟩
        · have HN:Hid (pnum true xn xd=val xd∧pden true xn xd=val xn∧0≤val xd∧0<val xn∧gI (val xd) (val xn)=1):=by
           have hx0:0<xn.length:=by
            rw [beq_eq_false_iff_ne] at hxb;omega
           have h5:=can_low HP.out.1.2.2.1 hx0;have h6:=pw_pos (xn.length - 1);exact ⟨rfl,rfl,Int.le_of_lt (right_pos HP.out.1).1,by omega,by rw [gI_comm];exact HP.out.1.2.2.2.2.2.2⟩
          obtain ⟨X0,X1,X2⟩:=X.cells;obtain ⟨Y0,Y1,Y2⟩:=Y.cells;go_wp2
          go_quiet (fail)
          go_wp2_with fail
          clear X0 X1 X2 Y0 Y1 Y2;have kq:=below_drewN' (Below.refl w0.heap.size w0) nq;replace X:=X.below kq;replace Y:=Y.below kq;replace R:=R.below kq;replace g:=g.trans (kq.mono g.size);generalize hA:w0.drewN nq=v1 at *;clear hA kq;have g1:=g;have R1:=R;refine (powerOf_any X.rd Y.rn (Nat.le_refl _) HP.out.1.2.2.2.1 (by omega) (by omega) HYv.out).mono ?_;rintro e w2 ⟨k2,⟨hbig,rfl⟩ | ⟨hfit,zs,z1,z2,cz,vz,rfl,oz⟩⟩
          · replace X:=X.below k2
            replace Y:=Y.below k2;replace R:=R.below k2;replace g:=g.trans (k2.mono g.size);have HB:Hid (pw 32≤pnum true xn xd ^ (val yn).toNat):=by unfold Hid;rw [HN.out.1];exact hbig
            clear hbig;have q0:=R.box.c0;have q1:=R.box.c1;have q2:=R.box.c2;have p0:=R.box.f0;have p1:=R.box.f1;have p2:=R.box.f2;go_wp2
            have hR3:=R.box.set (.bool false) (.slice none 0 0) (.slice none 0 0);have r0:=hR3.c0;have r1:=hR3.c1;have r2:=hR3.c2;refine bodyPost_ret (v:=.tuple #[.agg #[.bool false,.slice none 0 0,.slice none 0 0],.int .i64 8]) (by simp [results,Tryz.results95,go_sem,r0,r1,r2]) rfl ?_;exact ⟨Below.set3 g s1 _ _ _,false,none,0,0,none,0,0,8,rfl,Or.inr (Or.inr (Or.inl ⟨HP.out,HO.out,hy0,(by first | exact HXZ.out | (have h5:=HXZ.out;simpa using h5)),rfl,rfl,rfl,rfl,rfl,rfl,rfl,rfl,Or.inl HB.out⟩))⟩
          · replace X:=X.below k2
            replace Y:=Y.below k2;replace R:=R.below k2;replace g:=g.trans (k2.mono g.size);have HZ:Hid (val zs=val xd ^ (val yn).toNat∧val xd ^ (val yn).toNat<pw 32):=⟨vz,hfit⟩;clear vz hfit;obtain ⟨Y0,Y1,Y2⟩:=Y.cells
            go_wp2_with fail
            clear Y0 Y1 Y2;refine (powerOf_any X.rn Y.rn (Nat.le_refl _) HP.out.1.2.2.1 (by omega) (by omega) HYv.out).mono ?_;rintro e w3 ⟨k3,⟨hbig,rfl⟩ | ⟨hfit,us,u1,u2,cu,vu,rfl,ou⟩⟩
            · replace X:=X.below k3
              replace Y:=Y.below k3;replace R:=R.below k3;replace g:=g.trans (k3.mono g.size);have HB:Hid (pw 32≤pden true xn xd ^ (val yn).toNat):=by unfold Hid;rw [HN.out.2.1];exact hbig
              clear hbig;have q0:=R.box.c0;have q1:=R.box.c1;have q2:=R.box.c2;have p0:=R.box.f0;have p1:=R.box.f1;have p2:=R.box.f2;go_wp2
              have hR3:=R.box.set (.bool false) (.slice none 0 0) (.slice none 0 0);have r0:=hR3.c0;have r1:=hR3.c1;have r2:=hR3.c2;refine bodyPost_ret (v:=.tuple #[.agg #[.bool false,.slice none 0 0,.slice none 0 0],.int .i64 8]) (by simp [results,Tryz.results95,go_sem,r0,r1,r2]) rfl ?_;exact ⟨Below.set3 g s1 _ _ _,false,none,0,0,none,0,0,8,rfl,Or.inr (Or.inr (Or.inl ⟨HP.out,HO.out,hy0,(by first | exact HXZ.out | (have h5:=HXZ.out;simpa using h5)),rfl,rfl,rfl,rfl,rfl,rfl,rfl,rfl,Or.inr HB.out⟩))⟩
            · replace X:=X.below k3
              replace Y:=Y.below k3;replace R:=R.below k3;replace g:=g.trans (k3.mono g.size);have HU:Hid (val us=val xn ^ (val yn).toNat∧val xn ^ (val yn).toNat<pw 32):=⟨vu,hfit⟩;clear vu hfit;have HR:=fun b:Bool=>pow_right (b:=b) (A:=val xd) (D:=val xn) (N:=(val yn).toNat) cz cu HZ.out.1 HU.out.1 HN.out.2.2.1 HN.out.2.2.2.1 HN.out.2.2.2.2 HZ.out.2 HU.out.2;have lz:=(HR true).2.1;have lu:=(HR true).2.2.1;have HR2:Hid (∀ b:Bool,RightP (b && decide (0<zs.length)) zs us∧sg (b && decide (0<zs.length)) (val zs)=sg b (val xd ^ (val yn).toNat)):=fun b=>⟨(HR b).1,(HR b).2.2.2⟩;clear HR;have t3:Below v1.heap.size v1 w3:=k2.trans (k3.mono k2.size);have hc0:=rd_cell0 Y.rn hy0;rw [hy00] at hc0;have ozz:=oz.below k3 (Nat.le_refl _);have ouu:Own v1.heap.size w3 (.slice u1 us.length u2) us:=ou.mono k2.size;by_cases hodd:y00 % 2=1
              · have hob:(y00 % 2==1)=true:=by rw [beq_iff_eq];exact hodd
                have HOd2:Hid (decide ((val yn).toNat % 2=1)=true):=by unfold Hid;rw [← HOd.out];exact hob
                cases bx with
                | false=>
                 obtain ⟨X0,X1,X2⟩:=X.cells;obtain ⟨Y0,Y1,Y2⟩:=Y.cells
                 go_wp2_with fail
                 clear X0 X1 X2 Y0 Y1 Y2;refine (limited_ok false z1 u1 zs.length z2 us.length u2 _ lz lu).mono ?_;rintro e w4 ⟨rfl,k4⟩;have HR3:=HR2.out false;have HS:Hid (RightP (false && decide (0<zs.length)) zs us∧sg (false && decide (0<zs.length)) (val zs)=sg false (pnum true xn xd) ^ (val yn).toNat):=⟨HR3.1,by rw [HR3.2,HN.out.1,sg_pow,HOd2.out];rfl⟩;clear HR3;replace X:=X.below k4;replace Y:=Y.below k4;replace R:=R.below k4;replace g:=g.trans (k4.mono g.size);have hbb:(false && decide (0<zs.length))=false:=by rfl
                 rw [hbb] at HS;clear hbb;have q0:=R.box.c0;have q1:=R.box.c1;have q2:=R.box.c2;have p0:=R.box.f0;have p1:=R.box.f1;have p2:=R.box.f2;go_wp2
                 have hR3:=R.box.set (.bool false) (.slice z1 zs.length z2) (.slice u1 us.length u2);have r0:=hR3.c0;have r1:=hR3.c1;have r2:=hR3.c2;refine bodyPost_ret (v:=.tuple #[.agg #[.bool false,.slice z1 zs.length z2,.slice u1 us.length u2],.int .i64 0]) (by simp [results,Tryz.results95,go_sem,r0,r1,r2]) rfl ?_;exact ⟨Below.set3 g s1 _ _ _,false,z1,zs.length,z2,u1,us.length,u2,0,rfl,Or.inr (Or.inr (Or.inr ⟨HP.out,HO.out,(by first | exact HXZ2.out | (have h5:=HXZ2.out;simpa using h5)),rfl,by rw [HN.out.1];exact HZ.out.2,by rw [HN.out.2.1];exact HU.out.2,zs,us,rfl,rfl,(Own.set3 (ozz.below k4 (Nat.le_refl _)) R1.lt _ _ _).mono g1.size,(Own.set3 (ouu.below k4 (Nat.le_refl _)) R1.lt _ _ _).mono g1.size,HS.out.1,HS.out.2,by rw [HN.out.2.1];exact HU.out.1⟩))⟩
                | true=>
                 obtain ⟨X0,X1,X2⟩:=X.cells;obtain ⟨Y0,Y1,Y2⟩:=Y.cells
                 go_wp2_with fail
                 clear X0 X1 X2 Y0 Y1 Y2;refine (limited_ok true z1 u1 zs.length z2 us.length u2 _ lz lu).mono ?_;rintro e w4 ⟨rfl,k4⟩;have HR3:=HR2.out true;have HS:Hid (RightP (true && decide (0<zs.length)) zs us∧sg (true && decide (0<zs.length)) (val zs)=sg true (pnum true xn xd) ^ (val yn).toNat):=⟨HR3.1,by rw [HR3.2,HN.out.1,sg_pow,HOd2.out];rfl⟩;clear HR3;replace X:=X.below k4;replace Y:=Y.below k4;replace R:=R.below k4;replace g:=g.trans (k4.mono g.size);have hbb:(true && decide (0<zs.length))=decide (0<zs.length):=by rw [Bool.true_and]
                 rw [hbb] at HS;clear hbb;generalize decide (0<zs.length)=bz at *;have q0:=R.box.c0;have q1:=R.box.c1;have q2:=R.box.c2;have p0:=R.box.f0;have p1:=R.box.f1;have p2:=R.box.f2;go_wp2
                 have hR3:=R.box.set (.bool bz) (.slice z1 zs.length z2) (.slice u1 us.length u2);have r0:=hR3.c0;have r1:=hR3.c1;have r2:=hR3.c2;refine bodyPost_ret (v:=.tuple #[.agg #[.bool bz,.slice z1 zs.length z2,.slice u1 us.length u2],.int .i64 0]) (by simp [results,Tryz.results95,go_sem,r0,r1,r2]) rfl ?_;exact ⟨Below.set3 g s1 _ _ _,bz,z1,zs.length,z2,u1,us.length,u2,0,rfl,Or.inr (Or.inr (Or.inr ⟨HP.out,HO.out,(by first | exact HXZ2.out | (have h5:=HXZ2.out;simpa using h5)),rfl,by rw [HN.out.1];exact HZ.out.2,by rw [HN.out.2.1];exact HU.out.2,zs,us,rfl,rfl,(Own.set3 (ozz.below k4 (Nat.le_refl _)) R1.lt _ _ _).mono g1.size,(Own.set3 (ouu.below k4 (Nat.le_refl _)) R1.lt _ _ _).mono g1.size,HS.out.1,HS.out.2,by rw [HN.out.2.1];exact HU.out.1⟩))⟩
              · have hob:(y00 % 2==1)=false:=by rw [beq_eq_false_iff_ne];exact hodd
                have HOd2:Hid (decide ((val yn).toNat % 2=1)=false):=by unfold Hid;rw [← HOd.out];exact hob
                cases bx with
                | false=>
                 obtain ⟨X0,X1,X2⟩:=X.cells;obtain ⟨Y0,Y1,Y2⟩:=Y.cells
                 go_wp2_with fail
                 clear X0 X1 X2 Y0 Y1 Y2;refine (limited_ok false z1 u1 zs.length z2 us.length u2 _ lz lu).mono ?_;rintro e w4 ⟨rfl,k4⟩;have HR3:=HR2.out false;have HS:Hid (RightP (false && decide (0<zs.length)) zs us∧sg (false && decide (0<zs.length)) (val zs)=sg false (pnum true xn xd) ^ (val yn).toNat):=⟨HR3.1,by rw [HR3.2,HN.out.1,sg_pow,HOd2.out];rfl⟩;clear HR3;replace X:=X.below k4;replace Y:=Y.below k4;replace R:=R.below k4;replace g:=g.trans (k4.mono g.size);have hbb:(false && decide (0<zs.length))=false:=by rfl
                 rw [hbb] at HS;clear hbb;have q0:=R.box.c0;have q1:=R.box.c1;have q2:=R.box.c2;have p0:=R.box.f0;have p1:=R.box.f1;have p2:=R.box.f2;go_wp2
                 have hR3:=R.box.set (.bool false) (.slice z1 zs.length z2) (.slice u1 us.length u2);have r0:=hR3.c0;have r1:=hR3.c1;have r2:=hR3.c2;refine bodyPost_ret (v:=.tuple #[.agg #[.bool false,.slice z1 zs.length z2,.slice u1 us.length u2],.int .i64 0]) (by simp [results,Tryz.results95,go_sem,r0,r1,r2]) rfl ?_;exact ⟨Below.set3 g s1 _ _ _,false,z1,zs.length,z2,u1,us.length,u2,0,rfl,Or.inr (Or.inr (Or.inr ⟨HP.out,HO.out,(by first | exact HXZ2.out | (have h5:=HXZ2.out;simpa using h5)),rfl,by rw [HN.out.1];exact HZ.out.2,by rw [HN.out.2.1];exact HU.out.2,zs,us,rfl,rfl,(Own.set3 (ozz.below k4 (Nat.le_refl _)) R1.lt _ _ _).mono g1.size,(Own.set3 (ouu.below k4 (Nat.le_refl _)) R1.lt _ _ _).mono g1.size,HS.out.1,HS.out.2,by rw [HN.out.2.1];exact HU.out.1⟩))⟩
                | true=>
                 obtain ⟨X0,X1,X2⟩:=X.cells;obtain ⟨Y0,Y1,Y2⟩:=Y.cells
                 go_wp2_with fail
                 clear X0 X1 X2 Y0 Y1 Y2;refine (limited_ok false z1 u1 zs.length z2 us.length u2 _ lz lu).mono ?_;rintro e w4 ⟨rfl,k4⟩;have HR3:=HR2.out false;have HS:Hid (RightP (false && decide (0<zs.length)) zs us∧sg (false && decide (0<zs.length)) (val zs)=sg true (pnum true xn xd) ^ (val yn).toNat):=⟨HR3.1,by rw [HR3.2,HN.out.1,sg_pow,HOd2.out];rfl⟩;clear HR3;replace X:=X.below k4;replace Y:=Y.below k4;replace R:=R.below k4;replace g:=g.trans (k4.mono g.size);have hbb:(false && decide (0<zs.length))=false:=by rfl
                 rw [hbb] at HS;clear hbb;have q0:=R.box.c0;have q1:=R.box.c1;have q2:=R.box.c2;have p0:=R.box.f0;have p1:=R.box.f1;have p2:=R.box.f2;go_wp2
                 have hR3:=R.box.set (.bool false) (.slice z1 zs.length z2) (.slice u1 us.length u2);have r0:=hR3.c0;have r1:=hR3.c1;have r2:=hR3.c2;refine bodyPost_ret (v:=.tuple #[.agg #[.bool false,.slice z1 zs.length z2,.slice u1 us.length u2],.int .i64 0]) (by simp [results,Tryz.results95,go_sem,r0,r1,r2]) rfl ?_;exact ⟨Below.set3 g s1 _ _ _,false,z1,zs.length,z2,u1,us.length,u2,0,rfl,Or.inr (Or.inr (Or.inr ⟨HP.out,HO.out,(by first | exact HXZ2.out | (have h5:=HXZ2.out;simpa using h5)),rfl,by rw [HN.out.1];exact HZ.out.2,by rw [HN.out.2.1];exact HU.out.2,zs,us,rfl,rfl,(Own.set3 (ozz.below k4 (Nat.le_refl _)) R1.lt _ _ _).mono g1.size,(Own.set3 (ouu.below k4 (Nat.le_refl _)) R1.lt _ _ _).mono g1.size,HS.out.1,HS.out.2,by rw [HN.out.2.1];exact HU.out.1⟩))⟩
        · have HN:Hid (pnum false xn xd=val xn∧pden false xn xd=val xd∧0≤val xn∧0<val xd∧gI (val xn) (val xd)=1):=by
           exact ⟨rfl,rfl,(right_pos HP.out.1).2,(right_pos HP.out.1).1,HP.out.1.2.2.2.2.2.2⟩
          obtain ⟨X0,X1,X2⟩:=X.cells;obtain ⟨Y0,Y1,Y2⟩:=Y.cells;go_wp2
          go_quiet (fail)
          go_wp2_with fail
          clear X0 X1 X2 Y0 Y1 Y2;have kq:=below_drewN' (Below.refl w0.heap.size w0) nq;replace X:=X.below kq;replace Y:=Y.below kq;replace R:=R.below kq;replace g:=g.trans (kq.mono g.size);generalize hA:w0.drewN nq=v1 at *;clear hA kq;have g1:=g;have R1:=R;refine (powerOf_any X.rn Y.rn (Nat.le_refl _) HP.out.1.2.2.1 (by omega) (by omega) HYv.out).mono ?_;rintro e w2 ⟨k2,⟨hbig,rfl⟩ | ⟨hfit,zs,z1,z2,cz,vz,rfl,oz⟩⟩
          · replace X:=X.below k2
            replace Y:=Y.below k2;replace R:=R.below k2;replace g:=g.trans (k2.mono g.size);have HB:Hid (pw 32≤pnum false xn xd ^ (val yn).toNat):=by unfold Hid;rw [HN.out.1];exact hbig
            clear hbig;have q0:=R.box.c0;have q1:=R.box.c1;have q2:=R.box.c2;have p0:=R.box.f0;have p1:=R.box.f1;have p2:=R.box.f2;go_wp2
            have hR3:=R.box.set (.bool false) (.slice none 0 0) (.slice none 0 0);have r0:=hR3.c0;have r1:=hR3.c1;have r2:=hR3.c2;refine bodyPost_ret (v:=.tuple #[.agg #[.bool false,.slice none 0 0,.slice none 0 0],.int .i64 8]) (by simp [results,Tryz.results95,go_sem,r0,r1,r2]) rfl ?_;exact ⟨Below.set3 g s1 _ _ _,false,none,0,0,none,0,0,8,rfl,Or.inr (Or.inr (Or.inl ⟨HP.out,HO.out,hy0,(by first | exact HXZ.out | (have h5:=HXZ.out;simpa using h5)),rfl,rfl,rfl,rfl,rfl,rfl,rfl,rfl,Or.inl HB.out⟩))⟩
          · replace X:=X.below k2
            replace Y:=Y.below k2;replace R:=R.below k2;replace g:=g.trans (k2.mono g.size);have HZ:Hid (val zs=val xn ^ (val yn).toNat∧val xn ^ (val yn).toNat<pw 32):=⟨vz,hfit⟩;clear vz hfit;obtain ⟨Y0,Y1,Y2⟩:=Y.cells
            go_wp2_with fail
            clear Y0 Y1 Y2;refine (powerOf_any X.rd Y.rn (Nat.le_refl _) HP.out.1.2.2.2.1 (by omega) (by omega) HYv.out).mono ?_;rintro e w3 ⟨k3,⟨hbig,rfl⟩ | ⟨hfit,us,u1,u2,cu,vu,rfl,ou⟩⟩
            · replace X:=X.below k3
              replace Y:=Y.below k3;replace R:=R.below k3;replace g:=g.trans (k3.mono g.size);have HB:Hid (pw 32≤pden false xn xd ^ (val yn).toNat):=by unfold Hid;rw [HN.out.2.1];exact hbig
              clear hbig;have q0:=R.box.c0;have q1:=R.box.c1;have q2:=R.box.c2;have p0:=R.box.f0;have p1:=R.box.f1;have p2:=R.box.f2;go_wp2
              have hR3:=R.box.set (.bool false) (.slice none 0 0) (.slice none 0 0);have r0:=hR3.c0;have r1:=hR3.c1;have r2:=hR3.c2;refine bodyPost_ret (v:=.tuple #[.agg #[.bool false,.slice none 0 0,.slice none 0 0],.int .i64 8]) (by simp [results,Tryz.results95,go_sem,r0,r1,r2]) rfl ?_;exact ⟨Below.set3 g s1 _ _ _,false,none,0,0,none,0,0,8,rfl,Or.inr (Or.inr (Or.inl ⟨HP.out,HO.out,hy0,(by first | exact HXZ.out | (have h5:=HXZ.out;simpa using h5)),rfl,rfl,rfl,rfl,rfl,rfl,rfl,rfl,Or.inr HB.out⟩))⟩
            · replace X:=X.below k3
              replace Y:=Y.below k3;replace R:=R.below k3;replace g:=g.trans (k3.mono g.size);have HU:Hid (val us=val xd ^ (val yn).toNat∧val xd ^ (val yn).toNat<pw 32):=⟨vu,hfit⟩;clear vu hfit;have HR:=fun b:Bool=>pow_right (b:=b) (A:=val xn) (D:=val xd) (N:=(val yn).toNat) cz cu HZ.out.1 HU.out.1 HN.out.2.2.1 HN.out.2.2.2.1 HN.out.2.2.2.2 HZ.out.2 HU.out.2;have lz:=(HR true).2.1;have lu:=(HR true).2.2.1;have HR2:Hid (∀ b:Bool,RightP (b && decide (0<zs.length)) zs us∧sg (b && decide (0<zs.length)) (val zs)=sg b (val xn ^ (val yn).toNat)):=fun b=>⟨(HR b).1,(HR b).2.2.2⟩;clear HR;have t3:Below v1.heap.size v1 w3:=k2.trans (k3.mono k2.size);have hc0:=rd_cell0 Y.rn hy0;rw [hy00] at hc0;have ozz:=oz.below k3 (Nat.le_refl _);have ouu:Own v1.heap.size w3 (.slice u1 us.length u2) us:=ou.mono k2.size;by_cases hodd:y00 % 2=1
              · have hob:(y00 % 2==1)=true:=by rw [beq_iff_eq];exact hodd
                have HOd2:Hid (decide ((val yn).toNat % 2=1)=true):=by unfold Hid;rw [← HOd.out];exact hob
                cases bx with
                | false=>
                 obtain ⟨X0,X1,X2⟩:=X.cells;obtain ⟨Y0,Y1,Y2⟩:=Y.cells
                 go_wp2_with fail
                 clear X0 X1 X2 Y0 Y1 Y2;refine (limited_ok false z1 u1 zs.length z2 us.length u2 _ lz lu).mono ?_;rintro e w4 ⟨rfl,k4⟩;have HR3:=HR2.out false;have HS:Hid (RightP (false && decide (0<zs.length)) zs us∧sg (false && decide (0<zs.length)) (val zs)=sg false (pnum false xn xd) ^ (val yn).toNat):=⟨HR3.1,by rw [HR3.2,HN.out.1,sg_pow,HOd2.out];rfl⟩;clear HR3;replace X:=X.below k4;replace Y:=Y.below k4;replace R:=R.below k4;replace g:=g.trans (k4.mono g.size);have hbb:(false && decide (0<zs.length))=false:=by rfl
                 rw [hbb] at HS;clear hbb;have q0:=R.box.c0;have q1:=R.box.c1;have q2:=R.box.c2;have p0:=R.box.f0;have p1:=R.box.f1;have p2:=R.box.f2;go_wp2
                 have hR3:=R.box.set (.bool false) (.slice z1 zs.length z2) (.slice u1 us.length u2);have r0:=hR3.c0;have r1:=hR3.c1;have r2:=hR3.c2;refine bodyPost_ret (v:=.tuple #[.agg #[.bool false,.slice z1 zs.length z2,.slice u1 us.length u2],.int .i64 0]) (by simp [results,Tryz.results95,go_sem,r0,r1,r2]) rfl ?_;exact ⟨Below.set3 g s1 _ _ _,false,z1,zs.length,z2,u1,us.length,u2,0,rfl,Or.inr (Or.inr (Or.inr ⟨HP.out,HO.out,(by first | exact HXZ2.out | (have h5:=HXZ2.out;simpa using h5)),rfl,by rw [HN.out.1];exact HZ.out.2,by rw [HN.out.2.1];exact HU.out.2,zs,us,rfl,rfl,(Own.set3 (ozz.below k4 (Nat.le_refl _)) R1.lt _ _ _).mono g1.size,(Own.set3 (ouu.below k4 (Nat.le_refl _)) R1.lt _ _ _).mono g1.size,HS.out.1,HS.out.2,by rw [HN.out.2.1];exact HU.out.1⟩))⟩
                | true=>
                 obtain ⟨X0,X1,X2⟩:=X.cells;obtain ⟨Y0,Y1,Y2⟩:=Y.cells
                 go_wp2_with fail
                 clear X0 X1 X2 Y0 Y1 Y2;refine (limited_ok true z1 u1 zs.length z2 us.length u2 _ lz lu).mono ?_;rintro e w4 ⟨rfl,k4⟩;have HR3:=HR2.out true;have HS:Hid (RightP (true && decide (0<zs.length)) zs us∧sg (true && decide (0<zs.length)) (val zs)=sg true (pnum false xn xd) ^ (val yn).toNat):=⟨HR3.1,by rw [HR3.2,HN.out.1,sg_pow,HOd2.out];rfl⟩;clear HR3;replace X:=X.below k4;replace Y:=Y.below k4;replace R:=R.below k4;replace g:=g.trans (k4.mono g.size);have hbb:(true && decide (0<zs.length))=decide (0<zs.length):=by rw [Bool.true_and]
                 rw [hbb] at HS;clear hbb;generalize decide (0<zs.length)=bz at *;have q0:=R.box.c0;have q1:=R.box.c1;have q2:=R.box.c2;have p0:=R.box.f0;have p1:=R.box.f1;have p2:=R.box.f2;go_wp2
                 have hR3:=R.box.set (.bool bz) (.slice z1 zs.length z2) (.slice u1 us.length u2);have r0:=hR3.c0;have r1:=hR3.c1;have r2:=hR3.c2;refine bodyPost_ret (v:=.tuple #[.agg #[.bool bz,.slice z1 zs.length z2,.slice u1 us.length u2],.int .i64 0]) (by simp [results,Tryz.results95,go_sem,r0,r1,r2]) rfl ?_;exact ⟨Below.set3 g s1 _ _ _,bz,z1,zs.length,z2,u1,us.length,u2,0,rfl,Or.inr (Or.inr (Or.inr ⟨HP.out,HO.out,(by first | exact HXZ2.out | (have h5:=HXZ2.out;simpa using h5)),rfl,by rw [HN.out.1];exact HZ.out.2,by rw [HN.out.2.1];exact HU.out.2,zs,us,rfl,rfl,(Own.set3 (ozz.below k4 (Nat.le_refl _)) R1.lt _ _ _).mono g1.size,(Own.set3 (ouu.below k4 (Nat.le_refl _)) R1.lt _ _ _).mono g1.size,HS.out.1,HS.out.2,by rw [HN.out.2.1];exact HU.out.1⟩))⟩
              · have hob:(y00 % 2==1)=false:=by rw [beq_eq_false_iff_ne];exact hodd
                have HOd2:Hid (decide ((val yn).toNat % 2=1)=false):=by unfold Hid;rw [← HOd.out];exact hob
                cases bx with
                | false=>
                 obtain ⟨X0,X1,X2⟩:=X.cells;obtain ⟨Y0,Y1,Y2⟩:=Y.cells
                 go_wp2_with fail
                 clear X0 X1 X2 Y0 Y1 Y2;refine (limited_ok false z1 u1 zs.length z2 us.length u2 _ lz lu).mono ?_;rintro e w4 ⟨rfl,k4⟩;have HR3:=HR2.out false;have HS:Hid (RightP (false && decide (0<zs.length)) zs us∧sg (false && decide (0<zs.length)) (val zs)=sg false (pnum false xn xd) ^ (val yn).toNat):=⟨HR3.1,by rw [HR3.2,HN.out.1,sg_pow,HOd2.out];rfl⟩;clear HR3;replace X:=X.below k4;replace Y:=Y.below k4;replace R:=R.below k4;replace g:=g.trans (k4.mono g.size);have hbb:(false && decide (0<zs.length))=false:=by rfl
                 rw [hbb] at HS;clear hbb;have q0:=R.box.c0;have q1:=R.box.c1;have q2:=R.box.c2;have p0:=R.box.f0;have p1:=R.box.f1;have p2:=R.box.f2;go_wp2
                 have hR3:=R.box.set (.bool false) (.slice z1 zs.length z2) (.slice u1 us.length u2);have r0:=hR3.c0;have r1:=hR3.c1;have r2:=hR3.c2;refine bodyPost_ret (v:=.tuple #[.agg #[.bool false,.slice z1 zs.length z2,.slice u1 us.length u2],.int .i64 0]) (by simp [results,Tryz.results95,go_sem,r0,r1,r2]) rfl ?_;exact ⟨Below.set3 g s1 _ _ _,false,z1,zs.length,z2,u1,us.length,u2,0,rfl,Or.inr (Or.inr (Or.inr ⟨HP.out,HO.out,(by first | exact HXZ2.out | (have h5:=HXZ2.out;simpa using h5)),rfl,by rw [HN.out.1];exact HZ.out.2,by rw [HN.out.2.1];exact HU.out.2,zs,us,rfl,rfl,(Own.set3 (ozz.below k4 (Nat.le_refl _)) R1.lt _ _ _).mono g1.size,(Own.set3 (ouu.below k4 (Nat.le_refl _)) R1.lt _ _ _).mono g1.size,HS.out.1,HS.out.2,by rw [HN.out.2.1];exact HU.out.1⟩))⟩
                | true=>
                 obtain ⟨X0,X1,X2⟩:=X.cells;obtain ⟨Y0,Y1,Y2⟩:=Y.cells
                 go_wp2_with fail
                 clear X0 X1 X2 Y0 Y1 Y2;refine (limited_ok false z1 u1 zs.length z2 us.length u2 _ lz lu).mono ?_;rintro e w4 ⟨rfl,k4⟩;have HR3:=HR2.out false;have HS:Hid (RightP (false && decide (0<zs.length)) zs us∧sg (false && decide (0<zs.length)) (val zs)=sg true (pnum false xn xd) ^ (val yn).toNat):=⟨HR3.1,by rw [HR3.2,HN.out.1,sg_pow,HOd2.out];rfl⟩;clear HR3;replace X:=X.below k4;replace Y:=Y.below k4;replace R:=R.below k4;replace g:=g.trans (k4.mono g.size);have hbb:(false && decide (0<zs.length))=false:=by rfl
                 rw [hbb] at HS;clear hbb;have q0:=R.box.c0;have q1:=R.box.c1;have q2:=R.box.c2;have p0:=R.box.f0;have p1:=R.box.f1;have p2:=R.box.f2;go_wp2
                 have hR3:=R.box.set (.bool false) (.slice z1 zs.length z2) (.slice u1 us.length u2);have r0:=hR3.c0;have r1:=hR3.c1;have r2:=hR3.c2;refine bodyPost_ret (v:=.tuple #[.agg #[.bool false,.slice z1 zs.length z2,.slice u1 us.length u2],.int .i64 0]) (by simp [results,Tryz.results95,go_sem,r0,r1,r2]) rfl ?_;exact ⟨Below.set3 g s1 _ _ _,false,z1,zs.length,z2,u1,us.length,u2,0,rfl,Or.inr (Or.inr (Or.inr ⟨HP.out,HO.out,(by first | exact HXZ2.out | (have h5:=HXZ2.out;simpa using h5)),rfl,by rw [HN.out.1];exact HZ.out.2,by rw [HN.out.2.1];exact HU.out.2,zs,us,rfl,rfl,(Own.set3 (ozz.below k4 (Nat.le_refl _)) R1.lt _ _ _).mono g1.size,(Own.set3 (ouu.below k4 (Nat.le_refl _)) R1.lt _ _ _).mono g1.size,HS.out.1,HS.out.2,by rw [HN.out.2.1];exact HU.out.1⟩))⟩
        · have HN:Hid (pnum false xn xd=val xn∧pden false xn xd=val xd∧0≤val xn∧0<val xd∧gI (val xn) (val xd)=1):=by
           exact ⟨rfl,rfl,(right_pos HP.out.1).2,(right_pos HP.out.1).1,HP.out.1.2.2.2.2.2.2⟩
          obtain ⟨X0,X1,X2⟩:=X.cells;obtain ⟨Y0,Y1,Y2⟩:=Y.cells;go_wp2
          go_quiet (fail)
          go_wp2_with fail
          clear X0 X1 X2 Y0 Y1 Y2;have kq:=below_drewN' (Below.refl w0.heap.size w0) nq;replace X:=X.below kq;replace Y:=Y.below kq;replace R:=R.below kq;replace g:=g.trans (kq.mono g.size);generalize hA:w0.drewN nq=v1 at *;clear hA kq;have g1:=g;have R1:=R;refine (powerOf_any X.rn Y.rn (Nat.le_refl _) HP.out.1.2.2.1 (by omega) (by omega) HYv.out).mono ?_;rintro e w2 ⟨k2,⟨hbig,rfl⟩ | ⟨hfit,zs,z1,z2,cz,vz,rfl,oz⟩⟩
          · replace X:=X.below k2
            replace Y:=Y.below k2;replace R:=R.below k2;replace g:=g.trans (k2.mono g.size);have HB:Hid (pw 32≤pnum false xn xd ^ (val yn).toNat):=by unfold Hid;rw [HN.out.1];exact hbig
            clear hbig;have q0:=R.box.c0;have q1:=R.box.c1;have q2:=R.box.c2;have p0:=R.box.f0;have p1:=R.box.f1;have p2:=R.box.f2;go_wp2
            have hR3:=R.box.set (.bool false) (.slice none 0 0) (.slice none 0 0);have r0:=hR3.c0;have r1:=hR3.c1;have r2:=hR3.c2;refine bodyPost_ret (v:=.tuple #[.agg #[.bool false,.slice none 0 0,.slice none 0 0],.int .i64 8]) (by simp [results,Tryz.results95,go_sem,r0,r1,r2]) rfl ?_;exact ⟨Below.set3 g s1 _ _ _,false,none,0,0,none,0,0,8,rfl,Or.inr (Or.inr (Or.inl ⟨HP.out,HO.out,hy0,(by first | exact HXZ.out | (have h5:=HXZ.out;simpa using h5)),rfl,rfl,rfl,rfl,rfl,rfl,rfl,rfl,Or.inl HB.out⟩))⟩
          · replace X:=X.below k2
            replace Y:=Y.below k2;replace R:=R.below k2;replace g:=g.trans (k2.mono g.size);have HZ:Hid (val zs=val xn ^ (val yn).toNat∧val xn ^ (val yn).toNat<pw 32):=⟨vz,hfit⟩;clear vz hfit;obtain ⟨Y0,Y1,Y2⟩:=Y.cells
            go_wp2_with fail
            clear Y0 Y1 Y2;refine (powerOf_any X.rd Y.rn (Nat.le_refl _) HP.out.1.2.2.2.1 (by omega) (by omega) HYv.out).mono ?_;rintro e w3 ⟨k3,⟨hbig,rfl⟩ | ⟨hfit,us,u1,u2,cu,vu,rfl,ou⟩⟩
            · replace X:=X.below k3
              replace Y:=Y.below k3;replace R:=R.below k3;replace g:=g.trans (k3.mono g.size);have HB:Hid (pw 32≤pden false xn xd ^ (val yn).toNat):=by unfold Hid;rw [HN.out.2.1];exact hbig
              clear hbig;have q0:=R.box.c0;have q1:=R.box.c1;have q2:=R.box.c2;have p0:=R.box.f0;have p1:=R.box.f1;have p2:=R.box.f2;go_wp2
              have hR3:=R.box.set (.bool false) (.slice none 0 0) (.slice none 0 0);have r0:=hR3.c0;have r1:=hR3.c1;have r2:=hR3.c2;refine bodyPost_ret (v:=.tuple #[.agg #[.bool false,.slice none 0 0,.slice none 0 0],.int .i64 8]) (by simp [results,Tryz.results95,go_sem,r0,r1,r2]) rfl ?_;exact ⟨Below.set3 g s1 _ _ _,false,none,0,0,none,0,0,8,rfl,Or.inr (Or.inr (Or.inl ⟨HP.out,HO.out,hy0,(by first | exact HXZ.out | (have h5:=HXZ.out;simpa using h5)),rfl,rfl,rfl,rfl,rfl,rfl,rfl,rfl,Or.inr HB.out⟩))⟩
            · replace X:=X.below k3
              replace Y:=Y.below k3;replace R:=R.below k3;replace g:=g.trans (k3.mono g.size);have HU:Hid (val us=val xd ^ (val yn).toNat∧val xd ^ (val yn).toNat<pw 32):=⟨vu,hfit⟩;clear vu hfit;have HR:=fun b:Bool=>pow_right (b:=b) (A:=val xn) (D:=val xd) (N:=(val yn).toNat) cz cu HZ.out.1 HU.out.1 HN.out.2.2.1 HN.out.2.2.2.1 HN.out.2.2.2.2 HZ.out.2 HU.out.2;have lz:=(HR true).2.1;have lu:=(HR true).2.2.1;have HR2:Hid (∀ b:Bool,RightP (b && decide (0<zs.length)) zs us∧sg (b && decide (0<zs.length)) (val zs)=sg b (val xn ^ (val yn).toNat)):=fun b=>⟨(HR b).1,(HR b).2.2.2⟩;clear HR;have t3:Below v1.heap.size v1 w3:=k2.trans (k3.mono k2.size);have hc0:=rd_cell0 Y.rn hy0;rw [hy00] at hc0;have ozz:=oz.below k3 (Nat.le_refl _);have ouu:Own v1.heap.size w3 (.slice u1 us.length u2) us:=ou.mono k2.size;by_cases hodd:y00 % 2=1
              · have hob:(y00 % 2==1)=true:=by rw [beq_iff_eq];exact hodd
                have HOd2:Hid (decide ((val yn).toNat % 2=1)=true):=by unfold Hid;rw [← HOd.out];exact hob
                cases bx with
                | false=>
                 obtain ⟨X0,X1,X2⟩:=X.cells;obtain ⟨Y0,Y1,Y2⟩:=Y.cells
                 go_wp2_with fail
                 clear X0 X1 X2 Y0 Y1 Y2;refine (limited_ok false z1 u1 zs.length z2 us.length u2 _ lz lu).mono ?_;rintro e w4 ⟨rfl,k4⟩;have HR3:=HR2.out false;have HS:Hid (RightP (false && decide (0<zs.length)) zs us∧sg (false && decide (0<zs.length)) (val zs)=sg false (pnum false xn xd) ^ (val yn).toNat):=⟨HR3.1,by rw [HR3.2,HN.out.1,sg_pow,HOd2.out];rfl⟩;clear HR3;replace X:=X.below k4;replace Y:=Y.below k4;replace R:=R.below k4;replace g:=g.trans (k4.mono g.size);have hbb:(false && decide (0<zs.length))=false:=by rfl
                 rw [hbb] at HS;clear hbb;have q0:=R.box.c0;have q1:=R.box.c1;have q2:=R.box.c2;have p0:=R.box.f0;have p1:=R.box.f1;have p2:=R.box.f2;go_wp2
                 have hR3:=R.box.set (.bool false) (.slice z1 zs.length z2) (.slice u1 us.length u2);have r0:=hR3.c0;have r1:=hR3.c1;have r2:=hR3.c2;refine bodyPost_ret (v:=.tuple #[.agg #[.bool false,.slice z1 zs.length z2,.slice u1 us.length u2],.int .i64 0]) (by simp [results,Tryz.results95,go_sem,r0,r1,r2]) rfl ?_;exact ⟨Below.set3 g s1 _ _ _,false,z1,zs.length,z2,u1,us.length,u2,0,rfl,Or.inr (Or.inr (Or.inr ⟨HP.out,HO.out,(by first | exact HXZ2.out | (have h5:=HXZ2.out;simpa using h5)),rfl,by rw [HN.out.1];exact HZ.out.2,by rw [HN.out.2.1];exact HU.out.2,zs,us,rfl,rfl,(Own.set3 (ozz.below k4 (Nat.le_refl _)) R1.lt _ _ _).mono g1.size,(Own.set3 (ouu.below k4 (Nat.le_refl _)) R1.lt _ _ _).mono g1.size,HS.out.1,HS.out.2,by rw [HN.out.2.1];exact HU.out.1⟩))⟩
                | true=>
                 obtain ⟨X0,X1,X2⟩:=X.cells;obtain ⟨Y0,Y1,Y2⟩:=Y.cells
                 go_wp2_with fail
                 clear X0 X1 X2 Y0 Y1 Y2;refine (limited_ok true z1 u1 zs.length z2 us.length u2 _ lz lu).mono ?_;rintro e w4 ⟨rfl,k4⟩;have HR3:=HR2.out true;have HS:Hid (RightP (true && decide (0<zs.length)) zs us∧sg (true && decide (0<zs.length)) (val zs)=sg true (pnum false xn xd) ^ (val yn).toNat):=⟨HR3.1,by rw [HR3.2,HN.out.1,sg_pow,HOd2.out];rfl⟩;clear HR3;replace X:=X.below k4;replace Y:=Y.below k4;replace R:=R.below k4;replace g:=g.trans (k4.mono g.size);have hbb:(true && decide (0<zs.length))=decide (0<zs.length):=by rw [Bool.true_and]
                 rw [hbb] at HS;clear hbb;generalize decide (0<zs.length)=bz at *;have q0:=R.box.c0;have q1:=R.box.c1;have q2:=R.box.c2;have p0:=R.box.f0;have p1:=R.box.f1;have p2:=R.box.f2;go_wp2
                 have hR3:=R.box.set (.bool bz) (.slice z1 zs.length z2) (.slice u1 us.length u2);have r0:=hR3.c0;have r1:=hR3.c1;have r2:=hR3.c2;refine bodyPost_ret (v:=.tuple #[.agg #[.bool bz,.slice z1 zs.length z2,.slice u1 us.length u2],.int .i64 0]) (by simp [results,Tryz.results95,go_sem,r0,r1,r2]) rfl ?_;exact ⟨Below.set3 g s1 _ _ _,bz,z1,zs.length,z2,u1,us.length,u2,0,rfl,Or.inr (Or.inr (Or.inr ⟨HP.out,HO.out,(by first | exact HXZ2.out | (have h5:=HXZ2.out;simpa using h5)),rfl,by rw [HN.out.1];exact HZ.out.2,by rw [HN.out.2.1];exact HU.out.2,zs,us,rfl,rfl,(Own.set3 (ozz.below k4 (Nat.le_refl _)) R1.lt _ _ _).mono g1.size,(Own.set3 (ouu.below k4 (Nat.le_refl _)) R1.lt _ _ _).mono g1.size,HS.out.1,HS.out.2,by rw [HN.out.2.1];exact HU.out.1⟩))⟩
              · have hob:(y00 % 2==1)=false:=by rw [beq_eq_false_iff_ne];exact hodd
                have HOd2:Hid (decide ((val yn).toNat % 2=1)=false):=by unfold Hid;rw [← HOd.out];exact hob
                cases bx with
                | false=>
                 obtain ⟨X0,X1,X2⟩:=X.cells;obtain ⟨Y0,Y1,Y2⟩:=Y.cells
                 go_wp2_with fail
                 clear X0 X1 X2 Y0 Y1 Y2;refine (limited_ok false z1 u1 zs.length z2 us.length u2 _ lz lu).mono ?_;rintro e w4 ⟨rfl,k4⟩;have HR3:=HR2.out false;have HS:Hid (RightP (false && decide (0<zs.length)) zs us∧sg (false && decide (0<zs.length)) (val zs)=sg false (pnum false xn xd) ^ (val yn).toNat):=⟨HR3.1,by rw [HR3.2,HN.out.1,sg_pow,HOd2.out];rfl⟩;clear HR3;replace X:=X.below k4;replace Y:=Y.below k4;replace R:=R.below k4;replace g:=g.trans (k4.mono g.size);have hbb:(false && decide (0<zs.length))=false:=by rfl
                 rw [hbb] at HS;clear hbb;have q0:=R.box.c0;have q1:=R.box.c1;have q2:=R.box.c2;have p0:=R.box.f0;have p1:=R.box.f1;have p2:=R.box.f2;go_wp2
                 have hR3:=R.box.set (.bool false) (.slice z1 zs.length z2) (.slice u1 us.length u2);have r0:=hR3.c0;have r1:=hR3.c1;have r2:=hR3.c2;refine bodyPost_ret (v:=.tuple #[.agg #[.bool false,.slice z1 zs.length z2,.slice u1 us.length u2],.int .i64 0]) (by simp [results,Tryz.results95,go_sem,r0,r1,r2]) rfl ?_;exact ⟨Below.set3 g s1 _ _ _,false,z1,zs.length,z2,u1,us.length,u2,0,rfl,Or.inr (Or.inr (Or.inr ⟨HP.out,HO.out,(by first | exact HXZ2.out | (have h5:=HXZ2.out;simpa using h5)),rfl,by rw [HN.out.1];exact HZ.out.2,by rw [HN.out.2.1];exact HU.out.2,zs,us,rfl,rfl,(Own.set3 (ozz.below k4 (Nat.le_refl _)) R1.lt _ _ _).mono g1.size,(Own.set3 (ouu.below k4 (Nat.le_refl _)) R1.lt _ _ _).mono g1.size,HS.out.1,HS.out.2,by rw [HN.out.2.1];exact HU.out.1⟩))⟩
                | true=>
                 obtain ⟨X0,X1,X2⟩:=X.cells;obtain ⟨Y0,Y1,Y2⟩:=Y.cells
                 go_wp2_with fail
                 clear X0 X1 X2 Y0 Y1 Y2;refine (limited_ok false z1 u1 zs.length z2 us.length u2 _ lz lu).mono ?_;rintro e w4 ⟨rfl,k4⟩;have HR3:=HR2.out false;have HS:Hid (RightP (false && decide (0<zs.length)) zs us∧sg (false && decide (0<zs.length)) (val zs)=sg true (pnum false xn xd) ^ (val yn).toNat):=⟨HR3.1,by rw [HR3.2,HN.out.1,sg_pow,HOd2.out];rfl⟩;clear HR3;replace X:=X.below k4;replace Y:=Y.below k4;replace R:=R.below k4;replace g:=g.trans (k4.mono g.size);have hbb:(false && decide (0<zs.length))=false:=by rfl
                 rw [hbb] at HS;clear hbb;have q0:=R.box.c0;have q1:=R.box.c1;have q2:=R.box.c2;have p0:=R.box.f0;have p1:=R.box.f1;have p2:=R.box.f2;go_wp2
                 have hR3:=R.box.set (.bool false) (.slice z1 zs.length z2) (.slice u1 us.length u2);have r0:=hR3.c0;have r1:=hR3.c1;have r2:=hR3.c2;refine bodyPost_ret (v:=.tuple #[.agg #[.bool false,.slice z1 zs.length z2,.slice u1 us.length u2],.int .i64 0]) (by simp [results,Tryz.results95,go_sem,r0,r1,r2]) rfl ?_;exact ⟨Below.set3 g s1 _ _ _,false,z1,zs.length,z2,u1,us.length,u2,0,rfl,Or.inr (Or.inr (Or.inr ⟨HP.out,HO.out,(by first | exact HXZ2.out | (have h5:=HXZ2.out;simpa using h5)),rfl,by rw [HN.out.1];exact HZ.out.2,by rw [HN.out.2.1];exact HU.out.2,zs,us,rfl,rfl,(Own.set3 (ozz.below k4 (Nat.le_refl _)) R1.lt _ _ _).mono g1.size,(Own.set3 (ouu.below k4 (Nat.le_refl _)) R1.lt _ _ _).mono g1.size,HS.out.1,HS.out.2,by rw [HN.out.2.1];exact HU.out.1⟩))⟩
    · have hyb:((yn.length:Int)==0)=true:=by rw [beq_iff_eq];omega
      have HY0:Hid ((val yn).toNat=0∧¬ 0<yn.length):=by
       refine ⟨?_,hy0⟩;rw [(can_zero HP.out.2.2.2.1).1 (by omega)];rfl
      have g1:=g;have R1:=R;obtain ⟨Y0,Y1,Y2⟩:=Y.cells
      go_wp2_with fail
      clear Y0 Y1 Y2;refine (ofInt_any 1 (by omega) (by omega) _).mono ?_;rintro e w2 ⟨k2,b1,ns,ds,x1,y1,x2,y2,HW,rfl,on,od⟩;replace X:=X.below k2;replace Y:=Y.below k2;replace R:=R.below k2;replace g:=g.trans (k2.mono g.size);have q0:=R.box.c0;have q1:=R.box.c1;have q2:=R.box.c2;have p0:=R.box.f0;have p1:=R.box.f1;have p2:=R.box.f2;go_wp2
      have hR3:=R.box.set (.bool b1) (.slice x1 ns.length y1) (.slice x2 ds.length y2);have r0:=hR3.c0;have r1:=hR3.c1;have r2:=hR3.c2;refine bodyPost_ret (v:=.tuple #[.agg #[.bool b1,.slice x1 ns.length y1,.slice x2 ds.length y2],.int .i64 0]) (by simp [results,Tryz.results95,go_sem,r0,r1,r2]) rfl ?_;exact ⟨Below.set3 g s1 _ _ _,b1,x1,ns.length,y1,x2,ds.length,y2,0,rfl,Or.inr (Or.inr (Or.inr ⟨HP.out,HO.out,fun h=>HY0.out.2 h.1,rfl,by rw [HY0.out.1,Int.pow_zero];exact one_lt_pw,by rw [HY0.out.1,Int.pow_zero];exact one_lt_pw,ns,ds,rfl,rfl,(Own.set3 on R1.lt _ _ _).mono g1.size,(Own.set3 od R1.lt _ _ _).mono g1.size,HW.out.right,by rw [HY0.out.1,HW.out.sg.1,Int.pow_zero],by rw [HY0.out.1,HW.out.sg.2,Int.pow_zero]⟩))⟩
  · have HO:Hid (¬ yd=[1]):=hone
    rw [decide_eq_false hone];clear hone;have q0:=R.box.c0;have q1:=R.box.c1;have q2:=R.box.c2;have p0:=R.box.f0;have p1:=R.box.f1;have p2:=R.box.f2;go_wp2
    have hR3:=R.box.set (.bool false) (.slice none 0 0) (.slice none 0 0);have r0:=hR3.c0;have r1:=hR3.c1;have r2:=hR3.c2;refine bodyPost_ret (v:=.tuple #[.agg #[.bool false,.slice none 0 0,.slice none 0 0],.int .i64 3]) (by simp [results,Tryz.results95,go_sem,r0,r1,r2]) rfl ?_;exact ⟨Below.set3 g s1 _ _ _,false,none,0,0,none,0,0,3,rfl,Or.inr (Or.inl ⟨HP.out,Or.inl HO.out,rfl,rfl,rfl,rfl,rfl,rfl,rfl,rfl⟩)⟩
end
/-- What a residue answers. -/
def ResSpec (P:Prop) (bx:Bool) (xn xd:List Int) (cy:Bool) (yn yd:List Int) (b:Bool) (ns ds:List Int) (err:Int):Prop:=
 (¬ P∧err=22∧b=false∧ns=[]∧ds=[]) ∨
 (P∧xn.length=0∧err=0∧b=cy∧ns=yn∧ds=yd) ∨
 (P∧0<xn.length∧ResBig (sg cy (val yn)*sg bx (val xd)) (val yd*val xn) (sg bx (val xn)) (val xd) (sg cy (val yn)) (val yd)∧err=8∧b=false∧ns=[]∧ds=[]) ∨
 (P∧0<xn.length∧¬ ResBig (sg cy (val yn)*sg bx (val xd)) (val yd*val xn) (sg bx (val xn)) (val xd) (sg cy (val yn)) (val yd)∧err=0∧RightP b ns ds∧sg b (val ns)*(val yd*val xd)=(sg cy (val yn)*val xd + -(sg bx (val xn)*((sg cy (val yn)*sg bx (val xd))/(val yd*val xn)))*val yd)*val ds)
theorem ResSpec.unique {P:Prop} {bx cy:Bool} {xn xd yn yd:List Int} {b c:Bool} {ns ds ms es:List Int} {e f:Int} (hD:P→0<val yd*val xd) (h:ResSpec P bx xn xd cy yn yd b ns ds e) (k:ResSpec P bx xn xd cy yn yd c ms es f):c=b∧ms=ns∧es=ds∧f=e:=by
 rcases h with ⟨hp,rfl,rfl,rfl,rfl⟩ | ⟨hp,hc,rfl,rfl,rfl,rfl⟩ | ⟨hp,hc,h1,rfl,rfl,rfl,rfl⟩ | ⟨hp,hc,h1,rfl,hr,hv⟩ <;> rcases k with ⟨kp,rfl,rfl,rfl,rfl⟩ | ⟨kp,kc,rfl,rfl,rfl,rfl⟩ | ⟨kp,kc,k1,rfl,rfl,rfl,rfl⟩ | ⟨kp,kc,k1,rfl,kr,kv⟩
 all_goals first | exact ⟨rfl,rfl,rfl,rfl⟩ | exact absurd kp hp | exact absurd hp kp | exact absurd k1 h1 | exact absurd h1 k1 | (exfalso;omega) | (obtain ⟨rfl,rfl,rfl⟩:=right_is hr hv (hD hp) kr kv;exact ⟨rfl,rfl,rfl,rfl⟩)
theorem ResGives.spec {w w':World} {P:Prop} {bx cy:Bool} {xn xd yn yd:List Int} {e:Ending} (h:ResGives w P bx xn xd cy yn yd e w'):∃ b ns ds err,Hid (ResSpec P bx xn xd cy yn yd b ns ds err)∧RAns w b ns ds err e w':=by
 obtain ⟨hb,b,x1,n,y1,x2,m,y2,err,rfl,hO⟩:=h;rcases hO.out with ⟨hp,rfl,rfl,rfl,rfl,rfl,rfl,rfl,rfl⟩ | ⟨hp,hx,rfl,rfl,rfl,rfl,on,od⟩ | ⟨hp,hx,rfl,rfl,rfl,rfl,rfl,rfl,rfl,rfl,hbig⟩ | ⟨hp,hx,rfl,hbig,ns,ds,rfl,rfl,on,od,hr,hv⟩
 · exact ⟨false,[],[],22,Or.inl ⟨hp,rfl,rfl,rfl,rfl⟩,hb,none,0,none,0,rfl,nil_rd _,nil_rd _⟩
 · exact ⟨b,yn,yd,0,Or.inr (Or.inl ⟨hp,hx,rfl,rfl,rfl,rfl⟩),hb,x1,y1,x2,y2,rfl,on.rd,od.rd⟩
 · exact ⟨false,[],[],8,Or.inr (Or.inr (Or.inl ⟨hp,hx,hbig,rfl,rfl,rfl,rfl⟩)),hb,none,0,none,0,rfl,nil_rd _,nil_rd _⟩
 · exact ⟨b,ns,ds,0,Or.inr (Or.inr (Or.inr ⟨hp,hx,hbig,rfl,hr,hv⟩)),hb,x1,y1,x2,y2,rfl,on.rd,od.rd⟩
/-- What a power answers. -/
def PowSpec (P:Prop) (bx:Bool) (xn xd:List Int) (cy:Bool) (yn yd:List Int) (b:Bool) (ns ds:List Int) (err:Int):Prop:=
 (¬ P∧err=22∧b=false∧ns=[]∧ds=[]) ∨
 (P∧(¬ yd=[1]∨(yd=[1]∧0<yn.length∧xn.length=0∧cy=true))∧err=3∧b=false∧ns=[]∧ds=[]) ∨
 (P∧yd=[1]∧0<yn.length∧¬ (xn.length=0∧cy=true)∧(pw 32≤pnum cy xn xd ^ (val yn).toNat∨pw 32≤pden cy xn xd ^ (val yn).toNat)∧err=8∧b=false∧ns=[]∧ds=[]) ∨
 (P∧yd=[1]∧¬ (0<yn.length∧xn.length=0∧cy=true)∧pnum cy xn xd ^ (val yn).toNat<pw 32∧pden cy xn xd ^ (val yn).toNat<pw 32∧err=0∧RightP b ns ds∧sg b (val ns)=sg bx (pnum cy xn xd) ^ (val yn).toNat∧val ds=pden cy xn xd ^ (val yn).toNat)
theorem PowSpec.unique {P:Prop} {bx cy:Bool} {xn xd yn yd:List Int} {b c:Bool} {ns ds ms es:List Int} {e f:Int} (h:PowSpec P bx xn xd cy yn yd b ns ds e) (k:PowSpec P bx xn xd cy yn yd c ms es f):c=b∧ms=ns∧es=ds∧f=e:=by
 rcases h with ⟨hp,rfl,rfl,rfl,rfl⟩ | ⟨hp,hc,rfl,rfl,rfl,rfl⟩ | ⟨hp,h0,h1,h2,hbig,rfl,rfl,rfl,rfl⟩ | ⟨hp,h0,h1,hf1,hf2,rfl,hr,hv,hd⟩
 · rcases k with ⟨kp,rfl,rfl,rfl,rfl⟩ | ⟨kp,_⟩ | ⟨kp,_⟩ | ⟨kp,_⟩
   · exact ⟨rfl,rfl,rfl,rfl⟩
   all_goals exact absurd kp hp
 · rcases k with ⟨kp,_⟩ | ⟨kp,kc,rfl,rfl,rfl,rfl⟩ | ⟨kp,k0,k1,k2,_⟩ | ⟨kp,k0,k1,_⟩
   · exact absurd hp kp
   · exact ⟨rfl,rfl,rfl,rfl⟩
   · rcases hc with hc | ⟨_,_,hc⟩
     · exact absurd k0 hc
     · exact absurd hc k2
   · rcases hc with hc | ⟨_,hc⟩
     · exact absurd k0 hc
     · exact absurd hc k1
 · rcases k with ⟨kp,_⟩ | ⟨kp,kc,_⟩ | ⟨kp,k0,k1,k2,_,rfl,rfl,rfl,rfl⟩ | ⟨kp,k0,k1,kf1,kf2,_⟩
   · exact absurd hp kp
   · rcases kc with kc | ⟨_,_,kc⟩
     · exact absurd h0 kc
     · exact absurd kc h2
   · exact ⟨rfl,rfl,rfl,rfl⟩
   · exfalso;omega
 · rcases k with ⟨kp,_⟩ | ⟨kp,kc,_⟩ | ⟨kp,k0,k1,k2,kbig,_⟩ | ⟨kp,k0,k1,kf1,kf2,rfl,kr,kv,kd⟩
   · exact absurd hp kp
   · rcases kc with kc | ⟨_,kc⟩
     · exact absurd h0 kc
     · exact absurd kc h1
   · exfalso;omega
   · have hD:=(right_pos hr).1
     rw [hd] at hD;obtain ⟨rfl,rfl,rfl⟩:=right_is (N:=sg bx (pnum cy xn xd) ^ (val yn).toNat) (D:=pden cy xn xd ^ (val yn).toNat) hr (by rw [hv,hd]) hD kr (by rw [kv,kd]);exact ⟨rfl,rfl,rfl,rfl⟩
theorem PowsGive.spec {w w':World} {P:Prop} {bx cy:Bool} {xn xd yn yd:List Int} {e:Ending} (h:PowsGive w P bx xn xd cy yn yd e w'):∃ b ns ds err,Hid (PowSpec P bx xn xd cy yn yd b ns ds err)∧RAns w b ns ds err e w':=by
 obtain ⟨hb,b,x1,n,y1,x2,m,y2,err,rfl,hO⟩:=h;rcases hO.out with ⟨hp,rfl,rfl,rfl,rfl,rfl,rfl,rfl,rfl⟩ | ⟨hp,hx,rfl,rfl,rfl,rfl,rfl,rfl,rfl,rfl⟩ | ⟨hp,h0,h1,h2,rfl,rfl,rfl,rfl,rfl,rfl,rfl,rfl,hbig⟩ | ⟨hp,h0,h1,rfl,hf1,hf2,ns,ds,rfl,rfl,on,od,hr,hv,hd⟩
 · exact ⟨false,[],[],22,Or.inl ⟨hp,rfl,rfl,rfl,rfl⟩,hb,none,0,none,0,rfl,nil_rd _,nil_rd _⟩
 · exact ⟨false,[],[],3,Or.inr (Or.inl ⟨hp,hx,rfl,rfl,rfl,rfl⟩),hb,none,0,none,0,rfl,nil_rd _,nil_rd _⟩
 · exact ⟨false,[],[],8,Or.inr (Or.inr (Or.inl ⟨hp,h0,h1,h2,hbig,rfl,rfl,rfl,rfl⟩)),hb,none,0,none,0,rfl,nil_rd _,nil_rd _⟩
 · exact ⟨b,ns,ds,0,Or.inr (Or.inr (Or.inr ⟨hp,h0,h1,hf1,hf2,rfl,hr,hv,hd⟩)),hb,x1,y1,x2,y2,rfl,on.rd,od.rd⟩
/-- A base that is not 1 in size, to a great power. -/
theorem pow_wide {b cy:Bool} {xn xd:List Int} (h:RightP b xn xd) (h0:0<xn.length) (hne:¬ (xn=[1]∧xd=[1])) {N:Nat} (hN:1024≤N):pw 32≤pnum cy xn xd ^ N∨pw 32≤pden cy xn xd ^ N:=by
 have h1:=can_low h.2.2.1 h0;have h2:=pw_pos (xn.length - 1);have h3:=(right_pos h).1;by_cases a:2≤val xn
 · cases cy with
   | false=>exact Or.inl (pow_huge _ _ a hN)
   | true=>exact Or.inr (pow_huge _ _ a hN)
 · by_cases c:2≤val xd
   · cases cy with
     | false=>exact Or.inr (pow_huge _ _ c hN)
     | true=>exact Or.inl (pow_huge _ _ c hN)
   · exact absurd ⟨can_inj h.2.2.1 can_one (by rw [one_val];omega),can_inj h.2.2.2.1 can_one (by rw [one_val];omega)⟩ hne
theorem pow_fin {b:Bool} {zs us:List Int} {A D:Int} {N:Nat} (cz:can zs) (cu:can us) (vz:val zs=A ^ N) (vu:val us=D ^ N) (hA:0<A) (hD:0<D) (hg:gI A D=1) (lz:A ^ N<pw 32) (lu:D ^ N<pw 32) :
    RightP b zs us∧sg b (val zs)=sg b (A ^ N):=by
 obtain ⟨h1,_,_,h2⟩:=pow_right (b:=b) cz cu vz vu (Int.le_of_lt hA) hD hg lz lu;have hp:0<A ^ N:=Int.pow_pos hA;have hz:0<zs.length:=by
  by_cases h:zs.length=0
  · have:=(can_zero cz).1 h
    omega
  · omega
 rw [decide_eq_true hz,Bool.and_true] at h1 h2;exact ⟨h1,h2⟩
theorem right_zero:RightP false [] [1]:=⟨by decide,by decide,⟨lim_nil,Or.inl rfl⟩,can_one,(fun h=>by cases h.1),by decide,by decide⟩
theorem pow_big1 {cy:Bool} {xn xd:List Int} {N:Nat} (h:pw 32≤val xn ^ N∨pw 32≤val xd ^ N):pw 32≤pnum cy xn xd ^ N∨pw 32≤pden cy xn xd ^ N:=by
 cases cy with
 | false=>exact h
 | true=>exact h.symm
/-- The product of 1 to n. -/
def nfact:Nat→Nat
 | 0=>1
 | n+1=>nfact n*(n+1)
theorem nfact_grow (n:Nat):nfact n≤nfact (n+1):=Nat.le_mul_of_pos_right _ (Nat.succ_pos n)
theorem nfact_mono {j F:Nat} (h:j≤F):nfact j≤nfact F:=by
 induction F with
 | zero=>
  have:j=0:=by omega
  subst this;exact Nat.le_refl _
 | succ F ih=>
  by_cases hj:j=F+1
  · subst hj;exact Nat.le_refl _
  · exact Nat.le_trans (ih (by omega)) (nfact_grow F)
section
variable {w:World} {b:Bool} {a1 a2:Option Addr} {c1 c2:Nat} {xn xd:List Int}
theorem factorial_rat (h1:Rd w.heap.size w (.slice a1 xn.length c1) xn) (h2:Rd w.heap.size w (.slice a2 xd.length c2) xd) :
    Calls Tryz.prog 52 #[.agg #[.bool b,.slice a1 xn.length c1,.slice a2 xd.length c2]] w fun e w'=>∃ c ns ds err,Hid (CountSpec (RightP b xn xd) (IsCount b xd) (nfact (val xn).toNat) c ns ds err)∧RAns w c ns ds err e w':=by
 obtain ⟨X,R,g⟩:=in1_new (b:=b) w h1 h2;have s0:w.heap.size≤w.heap.size+1:=by omega
 clear h1 h2;obtain ⟨x0,x1,x2⟩:=X.cells;go_enter Tryz.func52,Tryz.ntmps52
 go_wp2_with fail
 clear x0 x1 x2;generalize hA:(w.alloc (.cells #[.bool b,.slice a1 xn.length c1,.slice a2 xd.length c2] 24)).alloc (.cells #[.bool false,.slice none 0 0,.slice none 0 0] 24)=v0 at *;clear hA;refine (right_rat X.rn X.rd (Nat.le_refl _)).mono ?_;rintro e wa ⟨⟨r,rfl,hr⟩,ka⟩;replace X:=X.below ka;replace R:=R.below ka;replace g:=g.trans (ka.mono g.size);clear ka
 cases r with
 | false=>
  have HP:Hid (¬ RightP b xn xd):=fun h=>by have:=hr.2 h;cases this
  clear hr;have q0:=R.box.c0;have q1:=R.box.c1;have q2:=R.box.c2;have p0:=R.box.f0;have p1:=R.box.f1;have p2:=R.box.f2;go_wp2
  have hR3:=R.box.set (.bool false) (.slice none 0 0) (.slice none 0 0);have r0:=hR3.c0;have r1:=hR3.c1;have r2:=hR3.c2;refine bodyPost_ret (v:=.tuple #[.agg #[.bool false,.slice none 0 0,.slice none 0 0],.int .i64 22]) (by simp [results,Tryz.results52,go_sem,r0,r1,r2]) rfl ?_;exact ⟨false,[],[],22,Or.inl ⟨HP.out,rfl,rfl,rfl,rfl⟩,Below.set3 g s0 _ _ _,none,0,none,0,rfl,nil_rd _,nil_rd _⟩
 | true=>
  have HP:Hid (RightP b xn xd):=hr.1 rfl;clear hr;obtain ⟨x0,x1,x2⟩:=X.cells
  go_wp2_with fail
  clear x0 x1 x2;refine (isCount_any X.rn X.rd).mono ?_;rintro e wb ⟨⟨r,rfl,hr⟩,kb⟩;replace X:=X.below kb;replace R:=R.below kb;replace g:=g.trans (kb.mono g.size);clear kb
  cases r with
  | false=>
   have HC:Hid (¬ IsCount b xd):=fun h=>by have:=hr.2 h;cases this
   clear hr;have q0:=R.box.c0;have q1:=R.box.c1;have q2:=R.box.c2;have p0:=R.box.f0;have p1:=R.box.f1;have p2:=R.box.f2;go_wp2
   have hR3:=R.box.set (.bool false) (.slice none 0 0) (.slice none 0 0);have r0:=hR3.c0;have r1:=hR3.c1;have r2:=hR3.c2;refine bodyPost_ret (v:=.tuple #[.agg #[.bool false,.slice none 0 0,.slice none 0 0],.int .i64 3]) (by simp [results,Tryz.results52,go_sem,r0,r1,r2]) rfl ?_;exact ⟨false,[],[],3,Or.inr (Or.inl ⟨HP.out,HC.out,rfl,rfl,rfl,rfl⟩),Below.set3 g s0 _ _ _,none,0,none,0,rfl,nil_rd _,nil_rd _⟩
  | true=>
   have HC:Hid (IsCount b xd):=hr.1 rfl;clear hr;obtain ⟨F,hF⟩:∃ F:Nat,Hid (F=(val xn).toNat∧val xn=(F:Int)):=⟨(val xn).toNat,rfl,by have:=(right_pos HP.out).2;omega⟩;have hFb:Fits F:=by
    constructor;rw [← hF.out.2];exact (can_len_pw HP.out.2.2.1 32).1 HP.out.1
   go_wp2_with fail
   refine (one_num _).mono ?_;rintro e v ⟨t0,p1,q1,HS0,rfl,os0,ka⟩;have gv:=g.trans (ka.mono g.size);have XV:=X.below ka;have RV:=R.below ka;have ot0:=os0
   go_wp2_with fail
   refine (one_num _).mono ?_;rintro e wc ⟨i0,p2,q2,HI0,rfl,oi0,kb⟩;have tb:Below wb.heap.size wb wc:=ka.trans (kb.mono ka.size);have os1:Own wb.heap.size wc (.slice p1 t0.length q1) t0:=os0.below kb (Nat.le_refl _);have oi1:Own wb.heap.size wc (.slice p2 i0.length q2) i0:=oi0.mono ka.size;have c0:Hid (can t0∧can i0∧t0.length≤32∧i0.length≤33∧val t0=1∧val i0=1):=by
    unfold Hid;rw [HS0.out,HI0.out];exact ⟨can_one,can_one,by simp,by simp,one_val,one_val⟩
   clear os0 ot0 oi0 gv XV RV ka kb;go_wp2
   go_loopg [4,5] F (fun gk sv iv wr=>∃ (j:Nat) (ss is:List Int) (a:Option Addr) (c:Nat) (a':Option Addr) (c':Nat),Hid (gk=F - j)∧sv=.slice a ss.length c∧iv=.slice a' is.length c'∧j≤F∧can ss∧can is∧Hid (val is=(j:Int)+1∧val ss=(nfact j:Int))∧ss.length≤32∧is.length≤33∧Own wb.heap.size wr (.slice a ss.length c) ss∧Own wb.heap.size wr (.slice a' is.length c') is∧Below wb.heap.size wb wr)
   case atStart=>exact ⟨0,t0,i0,p1,q1,p2,q2,rfl,rfl,rfl,Nat.zero_le _,c0.out.1,c0.out.2.1,⟨by rw [c0.out.2.2.2.2.2];rfl,by rw [c0.out.2.2.2.2.1];rfl⟩,c0.out.2.2.1,c0.out.2.2.2.1,os1,oi1,tb⟩
   case round=>
    obtain ⟨j,ss,is,a,c,a',c',hgk,rfl,rfl,hj,cs,ci,HV,ls,li,os,oi,tr⟩:=hrel;have X1:=X.below tr;obtain ⟨x0,x1,x2⟩:=X1.cells
    go_wp2_with fail
    clear x0 x1 x2;refine (compare_bl oi.rd X1.rn).mono ?_;rintro e w1 ⟨rfl,k1⟩;have t1:Below wb.heap.size wb w1:=tr.trans (k1.mono tr.size);rw [HV.out.1,hF.out.2];by_cases hlt:j<F
    · have hc:cmpI ((j:Int)+1) (F:Int)≤0:=by unfold cmpI;split;omega;split <;> omega
      have os1:=os.below k1 (Nat.le_refl _);have oi1:=oi.below k1 (Nat.le_refl _)
      go_wp2_with fail
      refine (prod2 os1.rd oi1.rd (Nat.le_refl _) (Nat.le_refl _) (by omega) (by omega)).mono ?_;rintro e w3 ⟨us,cu,vu,lu,p4,q4,rfl,ou,k3⟩;have t3:Below wb.heap.size wb w3:=t1.trans (k3.mono t1.size);have HU:Hid (val us=(nfact (j+1):Int)):=by
       unfold Hid;rw [vu,HV.out.2,HV.out.1,nfact,Int.natCast_mul];rfl
      clear vu;have ou3:Own wb.heap.size w3 (.slice p4 us.length q4) us:=ou.mono t1.size;have oi3:=oi1.below k3 (Nat.le_refl _);have g3:Below w.heap.size w w3:=g.trans (t3.mono g.size);clear hc lu os1 oi1 ou;by_cases hbig:32<us.length
      · have HB:Great (nfact F):=by
         constructor;have h5:¬ val us<pw 32:=fun h=>by have:=(can_len_pw cu 32).2 h;omega
         have h6:=nfact_mono (show j+1≤F by omega);rw [HU.out] at h5;omega
        have R4:=R.below t3;have q0:=R4.box.c0;have q1':=R4.box.c1;have q2':=R4.box.c2;have p0:=R4.box.f0;have p1':=R4.box.f1;have p2':=R4.box.f2;go_wp2
        have hR3:=R4.box.set (.bool false) (.slice none 0 0) (.slice none 0 0);have r0:=hR3.c0;have r1:=hR3.c1;have r2:=hR3.c2
        try simp only [Exit.inBlock,Exit.then]
        refine bodyPost_ret (v:=.tuple #[.agg #[.bool false,.slice none 0 0,.slice none 0 0],.int .i64 8]) ?_ rfl ?_
        · simp [results,Tryz.results52,go_sem,r0,r1,r2]
        exact ⟨false,[],[],8,Or.inr (Or.inr (Or.inl ⟨HP.out,HC.out,by rw [← hF.out.1];exact HB.is,rfl,rfl,rfl,rfl⟩)),Below.set3 g3 s0 _ _ _,none,0,none,0,rfl,nil_rd _,nil_rd _⟩
      · go_wp2_with fail
        refine (one_num _).mono ?_;rintro e w5 ⟨ds,p7,q7,HD,rfl,od,k5⟩;have t5:Below wb.heap.size wb w5:=t3.trans (k5.mono t3.size);have oi5:=oi3.below k5 (Nat.le_refl _);have ou5:=ou3.below k5 (Nat.le_refl _);have ld:ds.length≤1:=by rw [HD.out];exact Nat.le_refl _
        go_wp2_with fail
        refine (sum2 oi5.rd od.rd (Nat.le_refl _) (Nat.le_refl _) (by omega) (by omega)).mono ?_;rintro e w6 ⟨ts,ct,vt,lt',p8,q8,rfl,ot,k6⟩;have t6:Below wb.heap.size wb w6:=t5.trans (k6.mono t5.size);have HT:Hid (val ts=((j+1:Nat):Int)+1):=by unfold Hid;rw [vt,HV.out.1,HD.out,one_val];omega
        clear vt;have lts:ts.length≤33:=by
         have h5:(F:Int)<pw 32:=hFb.is;have h6:=pw_pos 32;refine (can_len_pw ct (32+1)).2 ?_;rw [HT.out,pw_succ];generalize pw 32=Z at *;omega
        have ou6:=ou5.below k6 (Nat.le_refl _);have ot6:Own wb.heap.size w6 (.slice p8 ts.length q8) ts:=ot.mono t5.size;go_wp2
        go_roundg (F - (j+1))
        case rel=>exact ⟨j+1,us,ts,p4,q4,p8,q8,rfl,rfl,rfl,by omega,cu,ct,⟨HT.out,HU.out⟩,by omega,lts,ou6,ot6,t6⟩
        case measure=>rw [hgk.out];omega
    · have hc:cmpI ((j:Int)+1) (F:Int)=1:=cmpI_gt (by omega)
      obtain rfl:j=F:=by omega
      rw [hc];clear hc;have os1:=os.below k1 (Nat.le_refl _);have HN:Fits (nfact j):=by constructor;rw [← HV.out.2];exact (can_len_pw cs 32).1 ls
      go_wp2_with fail
      refine (one_num _).mono ?_;rintro e w2 ⟨ds,p7,q7,HD,rfl,od,k2⟩;have t2:Below wb.heap.size wb w2:=t1.trans (k2.mono t1.size);have ld:ds.length≤32:=by rw [HD.out];simp
      have os2:=os1.below k2 (Nat.le_refl _);have od2:Own wb.heap.size w2 (.slice p7 ds.length q7) ds:=od.mono t1.size
      go_wp2_with fail
      refine (limited_ok false a p7 ss.length c ds.length q7 _ ls ld).mono ?_;rintro e w3 ⟨rfl,k3⟩;have t3:Below wb.heap.size wb w3:=t2.trans (k3.mono t2.size);have hbb:(false && decide (0<ss.length))=false:=rfl;rw [hbb];clear hbb;have os3:=os2.below k3 (Nat.le_refl _);have od3:=od2.below k3 (Nat.le_refl _);have R3:=R.below t3;have q0:=R3.box.c0;have q1':=R3.box.c1;have q2':=R3.box.c2;have p0:=R3.box.f0;have p1':=R3.box.f1;have p2':=R3.box.f2;go_wp2
      have hR3:=R3.box.set (.bool false) (.slice a ss.length c) (.slice p7 ds.length q7);have r0:=hR3.c0;have r1:=hR3.c1;have r2:=hR3.c2
      try simp only [Exit.inBlock,Exit.then]
      refine bodyPost_ret (v:=.tuple #[.agg #[.bool false,.slice a ss.length c,.slice p7 ds.length q7],.int .i64 0]) ?_ rfl ?_
      · simp [results,Tryz.results52,go_sem,r0,r1,r2]
      exact ⟨false,ss,ds,0,Or.inr (Or.inr (Or.inr ⟨HP.out,HC.out,by rw [← hF.out.1];exact HN.is,rfl,rfl,cs,by rw [← hF.out.1];exact HV.out.2,HD.out⟩)),Below.set3 (g.trans (t3.mono g.size)) s0 _ _ _,a,c,p7,q7,rfl,(Own.set3 os3 R.lt _ _ _).rd,(Own.set3 od3 R.lt _ _ _).rd⟩
end
theorem big_whole {N:Int} (h:Big N 1) (h0:0≤N):pw 32≤N:=by
 obtain ⟨b,ns,ds,cn,cd,hd,hg,hv,hl⟩:=h;rw [Int.mul_one] at hv;have e:=whole_den cn cd hd hg hv;subst e;rw [one_val,Int.mul_one] at hv;have hl2:32<ns.length:=by simp at hl;omega
 have h5:¬ val ns<pw 32:=fun h=>by have:=(can_len_pw cn 32).2 h;omega
 have h6:=(val_bound cn.1).1;have h7:=pw_pos 32;have h8:sg b (val ns)=val ns∨sg b (val ns) = -(val ns):=by unfold sg;split <;> simp
 omega
theorem right_whole {c:Bool} {ns ds:List Int} {N:Int} (hr:RightP c ns ds) (hv:sg c (val ns)*1=N*val ds) (h0:0<N):c=false∧val ns=N∧ds=[1]∧N<pw 32:=by
 rw [Int.mul_one] at hv;have e:=whole_den hr.2.2.1 hr.2.2.2.1 hr.2.2.2.2.2.1 hr.2.2.2.2.2.2 hv;have hp:=(right_pos hr).2;have hl:=(can_len_pw hr.2.2.1 32).1 hr.1;subst e;rw [one_val,Int.mul_one] at hv
 cases c with
 | true=>
  have h2:sg true (val ns) = -(val ns):=by simp [sg]
  omega
 | false=>rw [sg_false] at hv;exact ⟨rfl,hv,rfl,by omega⟩
theorem rmakes_count {w w':World} {P C:Prop} {N:Nat} {e:Ending} (hP:P) (hC:C) (h0:0<N) (h:RMakes w (N:Int) 1 e w'):∃ c ns ds err,Hid (CountSpec P C N c ns ds err)∧RAns w c ns ds err e w':=by
 obtain ⟨hb,⟨he,hbig⟩ | ⟨c,ns,ds,a1,c1,a2,c2,he,on,od,hr,hv⟩⟩:=h
 · exact ⟨false,[],[],8,Or.inr (Or.inr (Or.inl ⟨hP,hC,big_whole hbig (by omega),rfl,rfl,rfl,rfl⟩)),hb,none,0,none,0,he,nil_rd _,nil_rd _⟩
 · obtain ⟨e1,e2,e3,e4⟩:=right_whole hr hv (by omega)
   exact ⟨c,ns,ds,0,Or.inr (Or.inr (Or.inr ⟨hP,hC,e4,rfl,e1,hr.2.2.1,e2,e3⟩)),hb,a1,c1,a2,c2,he,on.rd,od.rd⟩
theorem nfact_pos (n:Nat):0<nfact n:=by
 induction n with
 | zero=>decide
 | succ n ih=>exact Nat.mul_pos ih (Nat.succ_pos n)
theorem nfact_great {n:Nat} (h:1000<n):pw 32≤(nfact n:Int):=by
 have h1:=nfact_mono (show 200≤n by omega);have h2:pw 32≤((nfact 200:Nat):Int):=by decide +kernel
 omega
section
variable {w:World} {b:Bool} {a1 a2:Option Addr} {c1 c2:Nat} {xn xd:List Int}
theorem refWhole_any (h1:Rd w.heap.size w (.slice a1 xn.length c1) xn) (h2:Rd w.heap.size w (.slice a2 xd.length c2) xd) (hr:Hid (RightP b xn xd)) :
    Calls Tryz.prog 69 #[.agg #[.bool b,.slice a1 xn.length c1,.slice a2 xd.length c2]] w fun e w'=>TellsP (IsCount b xd) e∧Below w.heap.size w w':=by
 have X:=nvar_new (b:=b) h1 h2;have g:=below_alloc w (.cells #[.bool b,.slice a1 xn.length c1,.slice a2 xd.length c2] 24);obtain ⟨x0,x1,x2⟩:=X.cells;go_enter Tryz.func69,Tryz.ntmps69
 go_wp2_with fail
 clear x0 x1 x2;generalize hA:w.alloc (.cells #[.bool b,.slice a1 xn.length c1,.slice a2 xd.length c2] 24)=v at *;clear hA;refine (refIsInt_rat X.rn X.rd).mono ?_;rintro e wa ⟨⟨r,rfl,hi⟩,ka⟩;replace X:=X.below ka;replace g:=g.trans (ka.mono g.size);clear ka;obtain ⟨x0,x1,x2⟩:=X.cells
 cases r with
 | false=>
  have HX:Hid (¬ IsWhole b xn xd):=fun h=>by have:=hi.2 h;cases this
  clear hi;go_wp2
  go_ret
  exact ⟨TellsP.no (fun h=>HX.out ⟨hr.out,h.1⟩),g⟩
 | true=>
  have HX:Hid (IsWhole b xn xd):=hi.1 rfl;clear hi
  cases b with
  | false=>
   go_wp2
   go_ret
   exact ⟨TellsP.yes ⟨HX.out.2,rfl⟩,g⟩
  | true=>
   go_wp2
   go_ret
   exact ⟨TellsP.no (fun h=>by cases h.2),g⟩
theorem refFactorial_rat (h1:Rd w.heap.size w (.slice a1 xn.length c1) xn) (h2:Rd w.heap.size w (.slice a2 xd.length c2) xd) :
    Calls Tryz.prog 22 #[.agg #[.bool b,.slice a1 xn.length c1,.slice a2 xd.length c2]] w fun e w'=>∃ c ns ds err,Hid (CountSpec (RightP b xn xd) (IsCount b xd) (nfact (val xn).toNat) c ns ds err)∧RAns w c ns ds err e w':=by
 obtain ⟨X,R,g⟩:=in1_new (b:=b) w h1 h2;have s0:w.heap.size≤w.heap.size+1:=by omega
 clear h1 h2;obtain ⟨x0,x1,x2⟩:=X.cells;go_enter Tryz.func22,Tryz.ntmps22
 go_wp2_with fail
 clear x0 x1 x2;generalize hA:(w.alloc (.cells #[.bool b,.slice a1 xn.length c1,.slice a2 xd.length c2] 24)).alloc (.cells #[.bool false,.slice none 0 0,.slice none 0 0] 24)=v0 at *;clear hA;refine (refRight_rat X.rn X.rd).mono ?_;rintro e wa ⟨⟨r,rfl,hr⟩,ka⟩;replace X:=X.below ka;replace R:=R.below ka;replace g:=g.trans (ka.mono g.size);clear ka
 cases r with
 | false=>
  have HP:Hid (¬ RightP b xn xd):=fun h=>by have:=hr.2 h;cases this
  clear hr;have q0:=R.box.c0;have q1:=R.box.c1;have q2:=R.box.c2;have p0:=R.box.f0;have p1:=R.box.f1;have p2:=R.box.f2;go_wp2
  have hR3:=R.box.set (.bool false) (.slice none 0 0) (.slice none 0 0);have r0:=hR3.c0;have r1:=hR3.c1;have r2:=hR3.c2;refine bodyPost_ret (v:=.tuple #[.agg #[.bool false,.slice none 0 0,.slice none 0 0],.int .i64 22]) (by simp [results,Tryz.results22,go_sem,r0,r1,r2]) rfl ?_;exact ⟨false,[],[],22,Or.inl ⟨HP.out,rfl,rfl,rfl,rfl⟩,Below.set3 g s0 _ _ _,none,0,none,0,rfl,nil_rd _,nil_rd _⟩
 | true=>
  have HP:Hid (RightP b xn xd):=hr.1 rfl;clear hr;obtain ⟨x0,x1,x2⟩:=X.cells
  go_wp2_with fail
  clear x0 x1 x2;refine (refWhole_any X.rn X.rd HP).mono ?_;rintro e wb ⟨⟨r,rfl,hr⟩,kb⟩;replace X:=X.below kb;replace R:=R.below kb;replace g:=g.trans (kb.mono g.size);clear kb
  cases r with
  | false=>
   have HC:Hid (¬ IsCount b xd):=fun h=>by have:=hr.2 h;cases this
   clear hr;have q0:=R.box.c0;have q1:=R.box.c1;have q2:=R.box.c2;have p0:=R.box.f0;have p1:=R.box.f1;have p2:=R.box.f2;go_wp2
   have hR3:=R.box.set (.bool false) (.slice none 0 0) (.slice none 0 0);have r0:=hR3.c0;have r1:=hR3.c1;have r2:=hR3.c2;refine bodyPost_ret (v:=.tuple #[.agg #[.bool false,.slice none 0 0,.slice none 0 0],.int .i64 3]) (by simp [results,Tryz.results22,go_sem,r0,r1,r2]) rfl ?_;exact ⟨false,[],[],3,Or.inr (Or.inl ⟨HP.out,HC.out,rfl,rfl,rfl,rfl⟩),Below.set3 g s0 _ _ _,none,0,none,0,rfl,nil_rd _,nil_rd _⟩
  | true=>
   have HC:Hid (IsCount b xd):=hr.1 rfl;clear hr;obtain ⟨F,hF⟩:∃ F:Nat,Hid (F=(val xn).toNat∧val xn=(F:Int)):=⟨(val xn).toNat,rfl,by have:=(right_pos HP.out).2;omega⟩;have l1:xn.length≤17592186044415:=Nat.le_trans HP.out.1 (by decide);obtain ⟨x0,x1,x2⟩:=X.cells
   go_wp2_with fail
   clear x0 x1 x2;refine (refSmall_any X.rn l1).mono ?_;rintro e wc ⟨rfl,kc⟩;replace X:=X.below kc;replace R:=R.below kc;replace g:=g.trans (kc.mono g.size);clear kc;rw [hF.out.2];by_cases hs:(F:Int)<9223372036854775808
   · rw [smallV_lt hs]
     by_cases hbig:1000<F
     · have HB:Great (nfact F):=⟨nfact_great hbig⟩
       have hd1:decide ((F:Int) > 1000)=true:=decide_eq_true (by omega);have q0:=R.box.c0;have q1:=R.box.c1;have q2:=R.box.c2;have p0:=R.box.f0;have p1:=R.box.f1;have p2:=R.box.f2;go_wp2
       have hR3:=R.box.set (.bool false) (.slice none 0 0) (.slice none 0 0);have r0:=hR3.c0;have r1:=hR3.c1;have r2:=hR3.c2;refine bodyPost_ret (v:=.tuple #[.agg #[.bool false,.slice none 0 0,.slice none 0 0],.int .i64 8]) (by simp [results,Tryz.results22,go_sem,r0,r1,r2]) rfl ?_;exact ⟨false,[],[],8,Or.inr (Or.inr (Or.inl ⟨HP.out,HC.out,by rw [← hF.out.1];exact HB.is,rfl,rfl,rfl,rfl⟩)),Below.set3 g s0 _ _ _,none,0,none,0,rfl,nil_rd _,nil_rd _⟩
     · have hd1:decide ((F:Int) > 1000)=false:=decide_eq_false (by omega)
       have hF1:F≤1000:=by omega
       clear hbig hs
       go_wp2_with fail
       refine (refOne_any _).mono ?_;rintro e wd ⟨t0,p1,q1,HS0,rfl,os0,kd⟩;have c0:Hid (can t0∧t0.length≤4∧val t0=1):=by
        unfold Hid;rw [HS0.out];exact ⟨can_one,by simp,one_val⟩
       go_wp2
       go_loopg [6,7] (F - 1) (fun gk sv iv wr=>∃ (j:Nat) (ss:List Int) (a:Option Addr) (c:Nat),Hid (gk=F - j)∧sv=.slice a ss.length c∧iv=.int .i64 ((j:Int)+1)∧1≤j∧j≤F+1∧Hid (j≤F∨(F=0∧j=1))∧can ss∧Hid (val ss=(nfact j:Int))∧ss.length≤4*j∧Own wc.heap.size wr (.slice a ss.length c) ss∧Below wc.heap.size wc wr)
       case atStart=>exact ⟨1,t0,p1,q1,rfl,rfl,rfl,Nat.le_refl _,by omega,(show 1≤F∨(F=0∧1=1) by omega),c0.out.1,by unfold Hid;rw [c0.out.2.2];rfl,c0.out.2.1,os0,kd⟩
       case round=>
        obtain ⟨j,ss,a,c,hgk,rfl,rfl,hj1,hjF,hjo,cs,HV,ls,os,tr⟩:=hrel;have hu:IntKind.u64.wrap ((j:Int)+1)=(j:Int)+1:=by rw [IntKind.wrap_u64];omega
        have hw:IntKind.i64.wrap ((j:Int)+1+1)=(j:Int)+1+1:=by rw [IntKind.wrap_i64];omega
        by_cases hlt:j<F
        · have hle:decide ((j:Int)+1≤(F:Int))=true:=decide_eq_true (by omega)
          go_wp2_with fail
          refine (refOf_num ((j:Int)+1) (by omega) (by omega) _).mono ?_;rintro e w1 ⟨us,cu,vu,lu,p4,q4,rfl,ou,k1⟩;have t1:Below wc.heap.size wc w1:=tr.trans (k1.mono tr.size);have os1:=os.below k1 (Nat.le_refl _)
          go_wp2_with fail
          refine (refMul_any os1.rd (Nat.le_refl _) ou.rd (Nat.le_refl _) (by omega) (by omega)).mono ?_;rintro e w2 ⟨zs,cz,vz,lz,p5,q5,rfl,oz,k2⟩;have t2:Below wc.heap.size wc w2:=t1.trans (k2.mono t1.size);have HZ:Hid (val zs=(nfact (j+1):Int)):=by
           unfold Hid;rw [vz,HV.out,vu.out,nfact,Int.natCast_mul];rfl
          clear vz;have oz2:Own wc.heap.size w2 (.slice p5 zs.length q5) zs:=oz.mono t1.size;go_wp2
          go_roundg (F - (j+1))
          case rel=>exact ⟨j+1,zs,p5,q5,rfl,rfl,by go_num,by omega,by omega,Or.inl (by omega),cz,HZ,by omega,oz2,t2⟩
          case measure=>rw [hgk.out];omega
        · have hle:decide ((j:Int)+1≤(F:Int))=false:=decide_eq_false (by omega)
          have HN:Hid (nfact j=nfact F):=by
           unfold Hid;rcases hjo.out with h | ⟨h,h'⟩
           · have:j=F:=by omega
             rw [this]
           · rw [h,h'];rfl
          go_wp2_with fail
          refine (refOne_any _).mono ?_;rintro e w1 ⟨ds,p7,q7,HD,rfl,od,k1⟩;have t1:Below wc.heap.size wc w1:=tr.trans (k1.mono tr.size);have os1:=os.below k1 (Nat.le_refl _);have ld:ds.length≤10000:=by rw [HD.out];simp
          go_wp2_with fail
          refine (refMake_rat os1.rd od.rd (by omega) ld (by rw [HD.out,one_val];decide)).mono ?_;intro e w2 hm6;rw [HD.out,one_val,sg_false,HV.out,HN.out] at hm6;obtain ⟨bm6,b6,x5,n5,y5,x6,n6,y6,err,rfl,hform⟩:=(RMakes.from' t1 hm6).form;have RF:=R.below bm6;have q0:=RF.box.c0;have q1':=RF.box.c1;have q2':=RF.box.c2;have p0:=RF.box.f0;have p1':=RF.box.f1;have p2':=RF.box.f2;go_wp2
          have hR3:=RF.box.set (.bool b6) (.slice x5 n5 y5) (.slice x6 n6 y6);have r0:=hR3.c0;have r1:=hR3.c1;have r2:=hR3.c2
          try simp only [Exit.inBlock,Exit.then]
          refine bodyPost_ret (v:=.tuple #[.agg #[.bool b6,.slice x5 n5 y5,.slice x6 n6 y6],.int .i64 err]) ?_ rfl ?_
          · simp [results,Tryz.results22,go_sem,r0,r1,r2]
          have hfin:=rmakes_count (C:=IsCount b xd) HP.out HC.out (nfact_pos F) (rform_done g s0 R.lt bm6 hform);rw [← hF.out.1];exact hfin
   · rw [smallV_ge (by omega)]
     have HB:Great (nfact F):=⟨nfact_great (by omega)⟩;clear hs;have q0:=R.box.c0;have q1:=R.box.c1;have q2:=R.box.c2;have p0:=R.box.f0;have p1:=R.box.f1;have p2:=R.box.f2;go_wp2
     have hR3:=R.box.set (.bool false) (.slice none 0 0) (.slice none 0 0);have r0:=hR3.c0;have r1:=hR3.c1;have r2:=hR3.c2;refine bodyPost_ret (v:=.tuple #[.agg #[.bool false,.slice none 0 0,.slice none 0 0],.int .i64 8]) (by simp [results,Tryz.results22,go_sem,r0,r1,r2]) rfl ?_;exact ⟨false,[],[],8,Or.inr (Or.inr (Or.inl ⟨HP.out,HC.out,by rw [← hF.out.1];exact HB.is,rfl,rfl,rfl,rfl⟩)),Below.set3 g s0 _ _ _,none,0,none,0,rfl,nil_rd _,nil_rd _⟩
end
end Go.Proofs.YtilbfkabfgnhpaaGreat
