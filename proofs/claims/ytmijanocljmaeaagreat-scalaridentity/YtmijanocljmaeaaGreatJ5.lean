/- Plain facts on texts: where a mark stands, what a macron is, byte by byte and character by character. -/
import Derived.Lib.RuneCount
import Derived.Laws.RangeAny
import Derived.Test.YtmijanocljmaeaaGreatJ3
import Derived.Lib.OthersKept
import Derived.Test.YtmijanocljmaeaaGreatJ1
import Derived.Test.YtmijanocljmaeaaGreatJ4
import Derived.Test.YtmijanocljmaeaaGreatJ2
set_option linter.unusedVariables false
set_option linter.unusedSimpArgs false
namespace Go.Proofs.YtmijanocljmaeaaGreat
section
/-- Does a text begin with a macron? -/
def isMac (l:List UInt8):Bool:=match l with | a :: b :: _=>a.toNat==194 && b.toNat==175 | _=>false
def isM (b:UInt8):Prop:=b.toNat=46∨b.toNat=114
/-- Where a number's digits begin. -/
def st (l:List UInt8):Nat:=if isMac l=true then 2 else 0
/-- What a text's parts are. -/
def Cuts (l:List UInt8) (B:Bool) (m:Int) (A H:List UInt8):Prop:=
 B=isMac l∧((m=0∧A=l.drop (st l)∧H=[]∧∀ y∈A,¬ isM y)∨∃ x,isM x∧m=(x.toNat:Int)∧l.drop (st l)=A++x :: H∧∀ y∈A,¬ isM y)
end
section
open Go.RowKit
/-- A variable of four cells. -/
def Box4 (w:World) (B ty:Nat) (x y z u:Value):Prop:=w.heap[B]? = some (.cells #[x,y,z,u] ty (0,0))
section
variable {w:World} {B ty:Nat} {x y z u:Value}
theorem Box4.below {w':World} {base:Nat} (h:Box4 w B ty x y z u) (hb:Below base w w') (hB:B<base):Box4 w' B ty x y z u:=by
 unfold Box4;rw [hb.block B hB];exact h
theorem Box4.c0 (h:Box4 w B ty x y z u):w.cell? ⟨B,0,none⟩=some x:=by unfold Box4 at h;simp [World.cell?,h]
theorem Box4.c1 (h:Box4 w B ty x y z u):w.cell? ⟨B,1,none⟩=some y:=by unfold Box4 at h;simp [World.cell?,h]
theorem Box4.c2 (h:Box4 w B ty x y z u):w.cell? ⟨B,2,none⟩=some z:=by unfold Box4 at h;simp [World.cell?,h]
theorem Box4.c3 (h:Box4 w B ty x y z u):w.cell? ⟨B,3,none⟩=some u:=by unfold Box4 at h;simp [World.cell?,h]
theorem Box4.f0 (h:Box4 w B ty x y z u):w.frozen? ⟨B,0,none⟩=false:=by unfold Box4 at h;simp [World.frozen?,h]
theorem Box4.f1 (h:Box4 w B ty x y z u):w.frozen? ⟨B,1,none⟩=false:=by unfold Box4 at h;simp [World.frozen?,h]
theorem Box4.f2 (h:Box4 w B ty x y z u):w.frozen? ⟨B,2,none⟩=false:=by unfold Box4 at h;simp [World.frozen?,h]
theorem Box4.f3 (h:Box4 w B ty x y z u):w.frozen? ⟨B,3,none⟩=false:=by unfold Box4 at h;simp [World.frozen?,h]
theorem Box4.set1 (h:Box4 w B ty x y z u) (v:Value):Box4 (w.setCell ⟨B,1,none⟩ v) B ty x v z u:=by
 unfold Box4 at h ⊢;simp [World.setCell,Array.getElem?_modify,h]
theorem Box4.set2 (h:Box4 w B ty x y z u) (v:Value):Box4 (w.setCell ⟨B,2,none⟩ v) B ty x y v u:=by
 unfold Box4 at h ⊢;simp [World.setCell,Array.getElem?_modify,h]
theorem Box4.set3 (h:Box4 w B ty x y z u) (v:Value):Box4 (w.setCell ⟨B,3,none⟩ v) B ty x y z v:=by
 unfold Box4 at h ⊢;simp [World.setCell,Array.getElem?_modify,h]
theorem Box4.other (h:Box4 w B ty x y z u) {p:Addr} (hp:p.block≠B) (v:Value):Box4 (w.setCell p v) B ty x y z u:=by
 unfold Box4 at h ⊢;have:¬ p.block=B:=hp;simp [World.setCell,Array.getElem?_modify,h,this]
end
theorem dval_lt {l:List UInt8} (h:digs l):dval l<10 ^ l.length:=by
 induction l with
 | nil=>decide
 | cons b l ih=>
  have hb:=h b (by simp);have h2:=ih (fun c hc=>h c (by simp [hc]));have e:dval (b :: l)=(b.toNat - 48)*10 ^ l.length+dval l:=by
   show (b :: l).foldl _ 0=_;rw [List.foldl_cons,dval_from];simp
  rw [e,List.length_cons,Nat.pow_succ];have h3:(b.toNat - 48)*10 ^ l.length≤9*10 ^ l.length:=Nat.mul_le_mul_right _ (by omega);omega
theorem own_nil' (base:Nat) (w:World):Own base w (.slice none 0 0) []:=⟨lim_nil,World.ownsRow_nil _ _ _ _⟩
def isNum (l:List UInt8):Prop:=digs l∧0<l.length
/-- What the reading of a text answers. -/
def Parses (w:World) (l:List UInt8) (e:Ending) (w':World):Prop:=
 Below w.heap.size w w'∧(isNum l→∃ zs a c,can zs∧val zs=dval l∧e=.returned (.tuple #[.slice a zs.length c,.bool true])∧Own w.heap.size w' (.slice a zs.length c) zs)∧(¬ isNum l→e=.returned (.tuple #[.slice none 0 0,.bool false]))
theorem can_len_pw {zs:List Int} (h:can zs) (M:Nat):(zs.length≤M↔val zs<pw M):=by
 constructor
 · intro hl
   have h1:=(val_bound h.1).2;have h2:=pw_mono hl;omega
 · intro hv
   by_cases hl:zs.length≤M
   · exact hl
   · have h1:=can_low h (by omega)
     have h2:=pw_mono (j:=M) (k:=zs.length - 1) (by omega);omega
theorem ten_pw (n:Nat):(((10 ^ n:Nat)):Int)≤pw n:=by
 induction n with
 | zero=>decide
 | succ n ih=>
  rw [pw_succ,Nat.pow_succ,Int.natCast_mul];have h1:(0:Int)≤((10 ^ n:Nat):Int):=Int.natCast_nonneg _;have:=pw_pos n;generalize ((10 ^ n:Nat):Int)=T at *;omega
theorem ten_lt (n:Nat) (h:0<n):(((10 ^ n:Nat)):Int)<pw n:=by
 obtain ⟨k,rfl⟩:∃ k,n=k+1:=⟨n - 1,by omega⟩;rw [pw_succ,Nat.pow_succ,Int.natCast_mul];have h1:=ten_pw k;have:=pw_pos k;generalize ((10 ^ k:Nat):Int)=T at *;omega
/-- What nat.Parse answers, in one form. -/
theorem Parses.form {w w':World} {l:List UInt8} {e:Ending} (h:Parses w l e w'):Below w.heap.size w w'∧∃ (xs:List Int) (a:Option Addr) (c:Nat) (ok:Bool),e=.returned (.tuple #[.slice a xs.length c,.bool ok])∧Own w.heap.size w' (.slice a xs.length c) xs∧xs.length≤l.length∧Hid ((ok=true↔isNum l)∧(ok=true→can xs∧val xs=(dval l:Int))):=by
 refine ⟨h.1,?_⟩;by_cases hn:isNum l
 · obtain ⟨zs,a,c,cz,vz,he,ho⟩:=h.2.1 hn
   refine ⟨zs,a,c,true,he,ho,?_,⟨fun _=>hn,fun _=>rfl⟩,fun _=>⟨cz,vz⟩⟩;rw [can_len_pw cz,vz];have h1:=dval_lt hn.1;have h2:=ten_lt l.length hn.2;omega
 · exact ⟨[],none,0,false,h.2.2 hn,own_nil' _ _,Nat.zero_le _,⟨(fun e=>by cases e),fun e=>absurd e hn⟩,fun e=>by cases e⟩
theorem Cuts.mark {l A H:List UInt8} {B:Bool} {m:Int} (h:Cuts l B m A H):m=0∨m=46∨m=114:=by
 obtain ⟨_,⟨h,_⟩ | ⟨x,hx,h,_⟩⟩:=h
 · exact Or.inl h
 · unfold isM at hx;omega
/-- What is in lowest terms, of a known small value. -/
theorem small_ratio {b c:Bool} {ns ds:List Int} {N D:Int} {p q:Nat} (cn:can ns) (cd:can ds) (hd:0<ds.length) (hg:gI (val ns) (val ds)=1) (e:sg b (val ns)*D=N*val ds) (hD:0<D) (hN:N*q=sg c p*D) (hp:0<p) (hq:0<q) (p9:p<4294967296) (q9:q<4294967296) (hpq:Nat.gcd p q=1) :
    b=c∧ns=[(p:Int)]∧ds=[(q:Int)]:=by
 have dp:0<val ds:=by have:=can_low cd hd;have:=pw_pos (ds.length - 1);omega
 have np:=(val_bound cn.1).1;have h1:sg b (val ns)*q=sg c p*val ds:=by
  refine cancel hD ?_;have e1:sg b (val ns)*q*D=sg b (val ns)*D*q:=by ac_rfl
  have e2:N*val ds*q=N*q*val ds:=by ac_rfl
  have e3:sg c p*D*val ds=sg c p*val ds*D:=by ac_rfl
  rw [e1,e,e2,hN,e3]
 have pp:0<(p:Int)*val ds:=Int.mul_pos (by omega) dp;have nq:0≤val ns*(q:Int):=Int.mul_nonneg np (by omega);rw [← sg_mul,← sg_mul] at h1;have h2:val ns*(q:Int)=(p:Int)*val ds∧b=c:=by
  unfold sg at h1;generalize val ns*(q:Int)=x at *;generalize (p:Int)*val ds=y at *
  cases b <;> cases c <;> simp at h1 <;> first | exact ⟨by omega,rfl⟩ | (exfalso;omega)
 obtain ⟨n,en⟩:=Int.eq_ofNat_of_zero_le np;obtain ⟨d,ed⟩:=Int.eq_ofNat_of_zero_le (Int.le_of_lt dp);have g1:Nat.gcd n d=1:=by
  rw [en,ed] at hg;unfold gI at hg;simp only [Int.toNat_natCast] at hg;omega
 have hm:=h2.1;rw [en,ed] at hm;have hmn:n*q=p*d:=by exact_mod_cast hm
 have d1:d ∣ q:=Nat.Coprime.dvd_of_dvd_mul_left (show Nat.Coprime d n by rw [Nat.coprime_comm];exact g1) ⟨p,by rw [hmn,Nat.mul_comm]⟩;have d2:q ∣ d:=Nat.Coprime.dvd_of_dvd_mul_left (show Nat.Coprime q p by rw [Nat.coprime_comm];exact hpq) ⟨n,by rw [← hmn,Nat.mul_comm]⟩;obtain rfl:d=q:=Nat.dvd_antisymm d1 d2;obtain rfl:n=p:=Nat.eq_of_mul_eq_mul_right hq hmn;exact ⟨h2.2,limbs_of cn n (by omega) (by omega) en,limbs_of cd d (by omega) (by omega) ed⟩
/-- A known small number is answered. -/
def SmallNum (w:World) (c:Bool) (p q:Nat) (e:Ending) (w':World):Prop:=
 Below w.heap.size w w'∧∃ ns ds a1 c1 a2 c2,Hid (ns=[(p:Int)]∧ds=[(q:Int)])∧e=.returned (.tuple #[.agg #[.bool c,.slice a1 ns.length c1,.slice a2 ds.length c2],.int .i64 0])∧Own w.heap.size w' (.slice a1 ns.length c1) ns∧Own w.heap.size w' (.slice a2 ds.length c2) ds
/-- A number that was made, of a known small value. -/
theorem RMakes.small {w w':World} {N D:Int} {e:Ending} {c:Bool} {p q:Nat} (h:RMakes w N D e w') (hD:0<D) (hN:N*q=sg c p*D) (hp:0<p) (hq:0<q) (p9:p<4294967296) (q9:q<4294967296) (hpq:Nat.gcd p q=1) :
    SmallNum w c p q e w':=by
 refine ⟨h.1,?_⟩;rcases h.2 with ⟨_,b,ns,ds,cn,cd,hd,hg,he,hl⟩ | ⟨b,ns,ds,a1,c1,a2,c2,rfl,on,od,hr,he⟩
 · exfalso
   obtain ⟨_,rfl,rfl⟩:=small_ratio cn cd hd hg he hD hN hp hq p9 q9 hpq;simp at hl
 · obtain ⟨rfl,rfl,rfl⟩:=small_ratio hr.2.2.1 hr.2.2.2.1 hr.2.2.2.2.2.1 hr.2.2.2.2.2.2 he hD hN hp hq p9 q9 hpq
   exact ⟨_,_,a1,c1,a2,c2,⟨rfl,rfl⟩,rfl,on,od⟩
theorem Gives.small {w w':World} {P:Prop} {N D:Int} {e:Ending} {c:Bool} {p q:Nat} (h:Gives w P N D e w') (hP:P) (hD:0<D) (hN:N*q=sg c p*D) (hp:0<p) (hq:0<q) (p9:p<4294967296) (q9:q<4294967296) (hpq:Nat.gcd p q=1) :
    SmallNum w c p q e w':=by
 obtain ⟨hb,b,x1,n,y1,x2,m,y2,err,rfl,ho⟩:=h;refine ⟨hb,?_⟩;rcases ho.out with ⟨hn,_⟩ | ⟨_,_,_,_,_,_,_,_,_,b',ns,ds,cn,cd,hd,hg,he,hl⟩ | ⟨_,rfl,ns,ds,rfl,rfl,on,od,hr,he⟩
 · exact absurd hP hn
 · exfalso
   obtain ⟨_,rfl,rfl⟩:=small_ratio cn cd hd hg he hD hN hp hq p9 q9 hpq;simp at hl
 · obtain ⟨rfl,rfl,rfl⟩:=small_ratio hr.2.2.1 hr.2.2.2.1 hr.2.2.2.2.2.1 hr.2.2.2.2.2.2 he hD hN hp hq p9 q9 hpq
   exact ⟨_,_,x1,y1,x2,y2,⟨rfl,rfl⟩,rfl,on,od⟩
end
end Go.Proofs.YtmijanocljmaeaaGreat
