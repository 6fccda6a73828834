/- ScalarNumbers: what functions of numbers answer. -/
import Derived.Test.YtilbfkabfgnhpaaGreatU1
import Derived.Test.YtilbfkabfgnhpaaGreatU2
import Derived.Test.YtilbfkabfgnhpaaGreatP9
import Derived.Test.YtilbfkabfgnhpaaGreatM3
import Derived.Test.YtilbfkabfgnhpaaGreatP8
import Derived.Test.YtilbfkabfgnhpaaGreatKT
import Derived.Test.YtilbfkabfgnhpaaGreatM2
import Derived.Test.YtilbfkabfgnhpaaGreatP6
set_option maxRecDepth 100000
set_option maxHeartbeats 16000000
set_option linter.unusedVariables false
set_option linter.unusedSimpArgs false
namespace Go.Proofs.YtilbfkabfgnhpaaGreat
open Go.RowKit
/-- What may be answered: a number's sign and limbs, and an error. -/
abbrev Sp:=Bool→List Int→List Int→Int→Prop
/-- There is but one answer. -/
def Uq (S:Sp):Prop:=∀ b ns ds e c ms es f,S b ns ds e→S c ms es f→c=b∧ms=ns∧es=ds∧f=e
def Told (S:Sp) (w:World) (e:Ending) (w':World):Prop:=∃ b ns ds err,Hid (S b ns ds err)∧RAns w b ns ds err e w'
def ErrS (k:Int):Sp:=fun b ns ds err=>err=k∧b=false∧ns=[]∧ds=[]
def NumS (x:Bool) (xs ys:List Int):Sp:=fun b ns ds err=>err=0∧b=x∧ns=xs∧ds=ys
def WholeS (k:Int):Sp:=fun b ns ds err=>err=0∧WholeIs k b ns ds
theorem uq_err (k:Int):Uq (ErrS k):=by
 rintro b ns ds e c ms es f ⟨rfl,rfl,rfl,rfl⟩ ⟨rfl,rfl,rfl,rfl⟩;exact ⟨rfl,rfl,rfl,rfl⟩
theorem uq_num (x:Bool) (xs ys:List Int):Uq (NumS x xs ys):=by
 rintro b ns ds e c ms es f ⟨rfl,rfl,rfl,rfl⟩ ⟨rfl,rfl,rfl,rfl⟩;exact ⟨rfl,rfl,rfl,rfl⟩
theorem uq_whole (k:Int):Uq (WholeS k):=by
 rintro b ns ds e c ms es f ⟨rfl,rfl,c1,v1,_,rfl⟩ ⟨rfl,rfl,c2,v2,_,rfl⟩;exact ⟨rfl,can_inj c2 c1 (by rw [v1,v2]),rfl,rfl⟩
theorem uq_out {P:Prop} {N D:Int} (hD:P→0<D):Uq (OutSpec P N D):=fun _ _ _ _ _ _ _ _ h k=>OutSpec.unique hD h k
theorem uq_quot {bx cy:Bool} {xn xd yn yd:List Int}:Uq (QuotSpec (RightP bx xn xd∧RightP cy yn yd) bx xn xd cy yn yd):=by
 rintro b ns ds e c ms es f (⟨h0,h⟩ | ⟨h0,h⟩) (⟨k0,k⟩ | ⟨k0,k⟩)
 · exact DivZ.unique h k
 · omega
 · omega
 · exact OutSpec.unique (fun hp=>Int.mul_pos (right_pos hp.1).1 (by have h5:=can_low hp.2.2.2.1 h0;have h6:=pw_pos (yn.length - 1);omega)) h k
theorem uq_res {P:Prop} {bx cy:Bool} {xn xd yn yd:List Int} (hD:P→0<val yd*val xd):Uq (ResSpec P bx xn xd cy yn yd):=fun _ _ _ _ _ _ _ _ h k=>ResSpec.unique hD h k
theorem uq_pow {P:Prop} {bx cy:Bool} {xn xd yn yd:List Int}:Uq (PowSpec P bx xn xd cy yn yd):=fun _ _ _ _ _ _ _ _ h k=>PowSpec.unique h k
theorem uq_count {P C:Prop} {N:Nat}:Uq (CountSpec P C N):=fun _ _ _ _ _ _ _ _ h k=>CountSpec.unique h k
theorem told_gives {w w':World} {P:Prop} {N D:Int} {e:Ending} (h:Gives w P N D e w'):Told (OutSpec P N D) w e w':=h.spec
theorem told_makes {w w':World} {P:Prop} {N D:Int} {e:Ending} (h:RMakes w N D e w') (hD:0<D) (hP:P):Told (OutSpec P N D) w e w':=by
 obtain ⟨b,ns,ds,err,HS,hr⟩:=h.spec hD;refine ⟨b,ns,ds,err,?_,hr⟩;rcases HS.out with ⟨h0,_⟩ | ⟨_,he,hb,hn,hd,hg⟩ | ⟨_,he,hr,hv⟩
 · omega
 · exact Or.inr (Or.inl ⟨hP,he,hb,hn,hd,hg⟩)
 · exact Or.inr (Or.inr ⟨hP,he,hr,hv⟩)
theorem told_err {w w':World} (k:Int) (hb:Below w.heap.size w w'):Told (ErrS k) w (.returned (.tuple #[.agg #[.bool false,.slice none 0 0,.slice none 0 0],.int .i64 k])) w':=
 ⟨false,[],[],k,(⟨rfl,rfl,rfl,rfl⟩:ErrS k false [] [] k),hb,none,0,none,0,rfl,nil_rd _,nil_rd _⟩
theorem told_num {w w':World} {b:Bool} {ns ds:List Int} {base:Nat} {e:Ending} (h:NumO base b ns ds e w') (hb:Below w.heap.size w w'):Told (NumS b ns ds) w e w':=by
 obtain ⟨x1,y1,x2,y2,rfl,o1,o2⟩:=h;exact ⟨b,ns,ds,0,(⟨rfl,rfl,rfl,rfl⟩:NumS b ns ds b ns ds 0),hb,x1,y1,x2,y2,rfl,o1.rd,o2.rd⟩
theorem told_of {w w':World} {S:Sp} {b:Bool} {ns ds:List Int} {err:Int} {a1 a2:Option Addr} {c1 c2:Nat} (h:S b ns ds err) (hb:Below w.heap.size w w') (h1:Rd w'.heap.size w' (.slice a1 ns.length c1) ns) (h2:Rd w'.heap.size w' (.slice a2 ds.length c2) ds):Told S w (.returned (.tuple #[.agg #[.bool b,.slice a1 ns.length c1,.slice a2 ds.length c2],.int .i64 err])) w':=
 ⟨b,ns,ds,err,h,hb,a1,c1,a2,c2,rfl,h1,h2⟩
theorem Told.imp {w w':World} {S T:Sp} {e:Ending} (h:Told S w e w') (hi:∀ b ns ds err,S b ns ds err→T b ns ds err):Told T w e w':=by
 obtain ⟨b,ns,ds,err,HS,hr⟩:=h;exact ⟨b,ns,ds,err,hi _ _ _ _ HS.out,hr⟩
theorem whole_oneS {b:Bool} {ns ds:List Int} (h:WholeIs 1 b ns ds):b=false∧ns=[1]∧ds=[1]:=by
 obtain ⟨rfl,c,v,_,rfl⟩:=h;exact ⟨rfl,can_inj c can_one (by rw [v,one_val];rfl),rfl⟩
/-- S where P holds, else T. -/
def PartS (P:Prop) (S T:Sp):Sp:=fun b ns ds err=>(P∧S b ns ds err)∨(¬ P∧T b ns ds err)
theorem uq_part {P:Prop} {S T:Sp} (h:Uq S) (k:Uq T):Uq (PartS P S T):=by
 rintro b ns ds e c ms es f (⟨h1,h2⟩ | ⟨h1,h2⟩) (⟨k1,k2⟩ | ⟨k1,k2⟩)
 · exact h _ _ _ _ _ _ _ _ h2 k2
 · exact absurd h1 k1
 · exact absurd k1 h1
 · exact k _ _ _ _ _ _ _ _ h2 k2
theorem Told.yes {w w':World} {P:Prop} {S T:Sp} {e:Ending} (hp:P) (h:Told S w e w'):Told (PartS P S T) w e w':=h.imp fun _ _ _ _ h=>Or.inl ⟨hp,h⟩
theorem Told.no {w w':World} {P:Prop} {S T:Sp} {e:Ending} (hp:¬ P) (h:Told T w e w'):Told (PartS P S T) w e w':=h.imp fun _ _ _ _ h=>Or.inr ⟨hp,h⟩
theorem told_call {P:Program} {f:FuncId} {args:Array Value} {w:World} {S:Sp} {Q:Ending→World→Prop} (h:Calls P f args w fun e w'=>Told S w e w') (k:∀ e w',Told S w e w'→Q e w'):Calls P f args w Q:=h.mono k
theorem no_right {P:Prop} (h:false=true↔P):¬ P:=fun k=>by cases h.2 k
section
variable {w:World} {B ty:Nat} {a b c:Value}
theorem BoxA.six (h:BoxA w B ty #[a,b,c]):w.cell? ⟨B,0,none⟩=some a∧w.cell? ⟨B,1,none⟩=some b∧w.cell? ⟨B,2,none⟩=some c∧w.frozen? ⟨B,0,none⟩=false∧w.frozen? ⟨B,1,none⟩=false∧w.frozen? ⟨B,2,none⟩=false:=⟨h.cell 0 rfl,h.cell 1 rfl,h.cell 2 rfl,h.frozen 0,h.frozen 1,h.frozen 2⟩
theorem BoxA.put3 (h:BoxA w B ty #[a,b,c]) (x y z:Value):(((w.setCell ⟨B,0,none⟩ x).setCell ⟨B,1,none⟩ y).setCell ⟨B,2,none⟩ z).cell? ⟨B,0,none⟩=some x∧(((w.setCell ⟨B,0,none⟩ x).setCell ⟨B,1,none⟩ y).setCell ⟨B,2,none⟩ z).cell? ⟨B,1,none⟩=some y∧(((w.setCell ⟨B,0,none⟩ x).setCell ⟨B,1,none⟩ y).setCell ⟨B,2,none⟩ z).cell? ⟨B,2,none⟩=some z:=by
 have Q:=((h.put 0 x).put 1 y).put 2 z;exact ⟨Q.cell 0 rfl,Q.cell 1 rfl,Q.cell 2 rfl⟩
end
/-- Boxes are laid, one behind the other. -/
theorem lay2 (w:World) (x y:Array Value) (t u:Nat):∃ v,(w.alloc (.cells x t)).alloc (.cells y u)=v∧Below w.heap.size w v∧BoxA v w.heap.size t x∧BoxA v (w.heap.size+1) u y∧v.heap.size=w.heap.size+1+1:=by
 have k2:=below_alloc (w.alloc (.cells x t)) (.cells y u);have R:=boxA_new (w.alloc (.cells x t)) y u;rw [World.size_alloc] at R;exact ⟨_,rfl,(below_alloc w _).trans (k2.mono (by simp)),(boxA_new w x t).below k2 (by simp),R,by simp⟩
theorem lay3 (w:World) (x y z:Array Value) (t u s:Nat):∃ v,((w.alloc (.cells x t)).alloc (.cells y u)).alloc (.cells z s)=v∧Below w.heap.size w v∧BoxA v w.heap.size t x∧BoxA v (w.heap.size+1) u y∧BoxA v (w.heap.size+1+1) s z∧v.heap.size=w.heap.size+1+1+1:=by
 obtain ⟨v,rfl,g,X,Y,sz⟩:=lay2 w x y t u;have k:=below_alloc ((w.alloc (.cells x t)).alloc (.cells y u)) (.cells z s);have R:=boxA_new ((w.alloc (.cells x t)).alloc (.cells y u)) z s;rw [sz] at R;exact ⟨_,rfl,g.trans (k.mono g.size),X.below k (by omega),Y.below k (by omega),R,by rw [World.size_alloc,sz]⟩
theorem lay4 (w:World) (x y z r:Array Value) (t u s q:Nat):∃ v,(((w.alloc (.cells x t)).alloc (.cells y u)).alloc (.cells z s)).alloc (.cells r q)=v∧Below w.heap.size w v∧BoxA v w.heap.size t x∧BoxA v (w.heap.size+1) u y∧BoxA v (w.heap.size+1+1) s z∧BoxA v (w.heap.size+1+1+1) q r∧v.heap.size=w.heap.size+1+1+1+1:=by
 obtain ⟨v,rfl,g,X,Y,Z,sz⟩:=lay3 w x y z t u s;have k:=below_alloc (((w.alloc (.cells x t)).alloc (.cells y u)).alloc (.cells z s)) (.cells r q);have R:=boxA_new (((w.alloc (.cells x t)).alloc (.cells y u)).alloc (.cells z s)) r q;rw [sz] at R;exact ⟨_,rfl,g.trans (k.mono g.size),X.below k (by omega),Y.below k (by omega),Z.below k (by omega),R,by rw [World.size_alloc,sz]⟩
/-- A function of one number tells S of a number. -/
def MonT (kf:Nat) (b:Bool) (xn xd:List Int) (S:Sp):Prop:=∀ (v:World) (a1 a2:Option Addr) (c1 c2:Nat),Rd v.heap.size v (.slice a1 xn.length c1) xn→Rd v.heap.size v (.slice a2 xd.length c2) xd→Calls Tryz.prog kf #[.agg #[.bool b,.slice a1 xn.length c1,.slice a2 xd.length c2]] v fun e w'=>Told S v e w'
theorem eq_nilM (fn:Fn) (x y:Array Value) (w:World):(binOp BinOp.eql 38 (.func fn x y) .nilFunc).run Tryz.prog w=.ok (.bool false) w:=by kernel_rfl
theorem eq_nilM0 (w:World):(binOp BinOp.eql 38 .nilFunc .nilFunc).run Tryz.prog w=.ok (.bool true) w:=by kernel_rfl
theorem told_put {w w':World} {S:Sp} {b:Bool} {ns ds:List Int} {err:Int} {a1 a2:Option Addr} {c1 c2 k:Nat} (h:Hid (S b ns ds err)) (hb:Below w.heap.size w w') (h1:Rd w'.heap.size w' (.slice a1 ns.length c1) ns) (h2:Rd w'.heap.size w' (.slice a2 ds.length c2) ds) {ty:Nat} (hk:BoxA w' k ty #[.bool false,.slice none 0 0,.slice none 0 0]) (hne:w.heap.size≤k) :
    Told S w (.returned (.tuple #[.agg #[.bool b,.slice a1 ns.length c1,.slice a2 ds.length c2],.int .i64 err])) (((w'.setCell ⟨k,0,none⟩ (.bool b)).setCell ⟨k,1,none⟩ (.slice a1 ns.length c1)).setCell ⟨k,2,none⟩ (.slice a2 ds.length c2)):=
 told_of h.out (Below.set3 hb hne _ _ _) (Rd.put' h1 hk _ _ _) (Rd.put' h2 hk _ _ _)
section
variable {w:World} {bx bt:Bool} {a1 a2 a5 a6:Option Addr} {c1 c2 n5 c5 n6 c6 kf:Nat} {io pp gl:Int} {xn xd:List Int}
theorem one_none (hget:atKey .nilFunc gl tab1=.nilFunc) (h1:Rd w.heap.size w (.slice a1 xn.length c1) xn) (h2:Rd w.heap.size w (.slice a2 xd.length c2) xd) :
    Calls Tryz.prog 4 #[.agg #[.int .i64 io,.bool bt,.slice a5 n5 c5,.slice a6 n6 c6,.int .i64 pp],.int .i32 gl,.agg #[.bool bx,.slice a1 xn.length c1,.slice a2 xd.length c2]] w fun e w'=>Told (ErrS 23) w e w':=by
 obtain ⟨v,hA,g,E,Xb,R,sz⟩:=lay3 w #[.int .i64 io,.bool bt,.slice a5 n5 c5,.slice a6 n6 c6,.int .i64 pp] #[.bool bx,.slice a1 xn.length c1,.slice a2 xd.length c2] #[.bool false,.slice none 0 0,.slice none 0 0] 26 24 24;have HR:Hid (∀ {w':World},Below w.heap.size w w'→Rd w'.heap.size w' (.slice a1 xn.length c1) xn∧Rd w'.heap.size w' (.slice a2 xd.length c2) xd):=fun k=>⟨(h1.below k).mono k.size,(h2.below k).mono k.size⟩;clear h1 h2 E;go_enter Tryz.func4,Tryz.ntmps4
 go_wp2_with fail
 clear hA;refine (ofOne_any v).mono ?_;rintro e w1 ⟨rfl,hm,b1⟩;have s1:=b1.size;have hg:=MapIs.get (k:=gl) Tryz.underlying39 Tryz.underlying21 (zero_monad w1) hm;clear hm;rw [hget,sz] at hg;have g1:Below w.heap.size w w1:=g.trans (b1.mono g.size);have X1:=Xb.below b1 (by omega);have R1:=R.below b1 (by omega);have hnf:=eq_nilM0 w1;obtain ⟨r0,r1,r2,f0,f1,f2⟩:=R1.six;obtain ⟨y0,y1,y2⟩:=R1.put3 (.bool false) (.slice none 0 0) (.slice none 0 0);go_wp2
 refine bodyPost_ret (v:=.tuple #[.agg #[.bool false,.slice none 0 0,.slice none 0 0],.int .i64 23]) (by simp [results,Tryz.results4,go_sem,y0,y1,y2]) rfl ?_;exact told_err 23 (Below.set3 g1 (by omega) _ _ _)
theorem one_gen {S:Sp} (hget:atKey .nilFunc gl tab1=.func (.func kf) #[] #[]) (HN:∀ args w,Sem.run Tryz.prog (callFunc kf args) w=.ok (.enter kf args) w) (hK:RightP bx xn xd→MonT kf bx xn xd S) (h1:Rd w.heap.size w (.slice a1 xn.length c1) xn) (h2:Rd w.heap.size w (.slice a2 xd.length c2) xd) :
    Calls Tryz.prog 4 #[.agg #[.int .i64 io,.bool bt,.slice a5 n5 c5,.slice a6 n6 c6,.int .i64 pp],.int .i32 gl,.agg #[.bool bx,.slice a1 xn.length c1,.slice a2 xd.length c2]] w fun e w'=>Told (PartS (RightP bx xn xd) S (ErrS 22)) w e w':=by
 have HK:Hid (RightP bx xn xd→MonT kf bx xn xd S):=hK;clear hK;obtain ⟨v,hA,g,E,Xb,R,sz⟩:=lay3 w #[.int .i64 io,.bool bt,.slice a5 n5 c5,.slice a6 n6 c6,.int .i64 pp] #[.bool bx,.slice a1 xn.length c1,.slice a2 xd.length c2] #[.bool false,.slice none 0 0,.slice none 0 0] 26 24 24;have HR:Hid (∀ {w':World},Below w.heap.size w w'→Rd w'.heap.size w' (.slice a1 xn.length c1) xn∧Rd w'.heap.size w' (.slice a2 xd.length c2) xd):=fun k=>⟨(h1.below k).mono k.size,(h2.below k).mono k.size⟩;clear h1 h2 E;go_enter Tryz.func4,Tryz.ntmps4
 go_wp2_with fail
 clear hA;refine (ofOne_any v).mono ?_;rintro e w1 ⟨rfl,hm,b1⟩;have s1:=b1.size;have hg:=MapIs.get (k:=gl) Tryz.underlying39 Tryz.underlying21 (zero_monad w1) hm;clear hm;rw [hget,sz] at hg;have g1:Below w.heap.size w w1:=g.trans (b1.mono g.size);have X1:=Xb.below b1 (by omega);have R1:=R.below b1 (by omega);have hnf:=eq_nilM (.func kf) #[] #[];obtain ⟨x0,x1,x2,-⟩:=X1.six
 go_wp2_with fail
 clear hg x0 x1 x2;refine (right_rat (b:=bx) (HR.out g1).1 (HR.out g1).2 (Nat.le_refl _)).mono ?_;rintro e w2 ⟨⟨ra,rfl,ha⟩,b2⟩;have s2:=b2.size;have g2:Below w.heap.size w w2:=g1.trans (b2.mono g1.size);have R2:=R1.below b2 (by omega)
 cases ra with
 | false=>
  have HN:=no_right ha;clear ha;obtain ⟨r0,r1,r2,f0,f1,f2⟩:=R2.six;obtain ⟨y0,y1,y2⟩:=R2.put3 (.bool false) (.slice none 0 0) (.slice none 0 0);go_wp2
  refine bodyPost_ret (v:=.tuple #[.agg #[.bool false,.slice none 0 0,.slice none 0 0],.int .i64 22]) (by simp [results,Tryz.results4,go_sem,y0,y1,y2]) rfl ?_;exact (told_err 22 (Below.set3 g2 (by omega) _ _ _)).no HN
 | true=>
  have HP:=hidK (ha.1 rfl);clear ha;have X2:=X1.below b2 (by omega);obtain ⟨x0,x1,x2,-⟩:=X2.six;have C1:=HK.out HP.out w2 a1 a2 c1 c2 (HR.out g2).1 (HR.out g2).2;have C2:Hid (Calls Tryz.prog kf _ w2 _):=C1;clear C1
  go_wp2_with fail
  clear x0 x1 x2;refine C2.out.mono ?_;clear C2;rintro e w3 ⟨b,ns,ds,err,HS,b3,z1,u1,z2,u2,rfl,q1,q2⟩;have s3:=b3.size;have g3:Below w.heap.size w w3:=g2.trans (b3.mono g2.size);have R3:=R2.below b3 (by omega);have Q1:=hidK q1;have Q2:=hidK q2;clear q1 q2;obtain ⟨r0,r1,r2,f0,f1,f2⟩:=R3.six;obtain ⟨y0,y1,y2⟩:=R3.put3 (.bool b) (.slice z1 ns.length u1) (.slice z2 ds.length u2);go_wp2
  refine bodyPost_ret (v:=.tuple #[.agg #[.bool b,.slice z1 ns.length u1,.slice z2 ds.length u2],.int .i64 err]) (by simp [results,Tryz.results4,go_sem,y0,y1,y2]) rfl ?_;exact (told_put HS g3 Q1.out Q2.out R3 (by omega)).yes HP.out
end
/-- A function of two numbers tells S of two numbers, in each world where all stays. -/
def DyT (kf:Nat) (caps:Array Value) (w1:World) (a5 a6:Option Addr) (c5 c6:Nat) (bt:Bool) (tn td:List Int) (bx:Bool) (xn xd:List Int) (cy:Bool) (yn yd:List Int) (S:Sp):Prop:=∀ (v:World),Below w1.heap.size w1 v→∀ (a1 a2 a3 a4:Option Addr) (c1 c2 c3 c4:Nat),Rd v.heap.size v (.slice a5 tn.length c5) tn→Rd v.heap.size v (.slice a6 td.length c6) td→Rd v.heap.size v (.slice a1 xn.length c1) xn→Rd v.heap.size v (.slice a2 xd.length c2) xd→Rd v.heap.size v (.slice a3 yn.length c3) yn→Rd v.heap.size v (.slice a4 yd.length c4) yd →
 Calls Tryz.prog kf (#[.agg #[.bool bx,.slice a1 xn.length c1,.slice a2 xd.length c2],.agg #[.bool cy,.slice a3 yn.length c3,.slice a4 yd.length c4]]++caps) v fun e w'=>Told S v e w'
theorem eq_nilF0 (w:World):(binOp BinOp.eql 59 .nilFunc .nilFunc).run Tryz.prog w=.ok (.bool true) w:=by kernel_rfl
section
variable {w:World} {bt bx cy:Bool} {a1 a2 a3 a4 a5 a6:Option Addr} {tn td xn xd yn yd:List Int} {c1 c2 c3 c4 c5 c6 kf:Nat} {io pp gl:Int} {caps:Nat→Array Value}
theorem six_rd (h1:Rd w.heap.size w (.slice a5 tn.length c5) tn) (h2:Rd w.heap.size w (.slice a6 td.length c6) td) (h3:Rd w.heap.size w (.slice a1 xn.length c1) xn) (h4:Rd w.heap.size w (.slice a2 xd.length c2) xd) (h5:Rd w.heap.size w (.slice a3 yn.length c3) yn) (h6:Rd w.heap.size w (.slice a4 yd.length c4) yd):Hid (∀ w':World,Below w.heap.size w w'→Rd w'.heap.size w' (.slice a5 tn.length c5) tn∧Rd w'.heap.size w' (.slice a6 td.length c6) td∧Rd w'.heap.size w' (.slice a1 xn.length c1) xn∧Rd w'.heap.size w' (.slice a2 xd.length c2) xd∧Rd w'.heap.size w' (.slice a3 yn.length c3) yn∧Rd w'.heap.size w' (.slice a4 yd.length c4) yd):=fun w' k=>⟨(h1.below k).mono k.size,(h2.below k).mono k.size,(h3.below k).mono k.size,(h4.below k).mono k.size,(h5.below k).mono k.size,(h6.below k).mono k.size⟩
theorem two_none (hget:∀ b,atKey .nilFunc gl (tab2 b)=.nilFunc) (h1:Rd w.heap.size w (.slice a5 tn.length c5) tn) (h2:Rd w.heap.size w (.slice a6 td.length c6) td) (h3:Rd w.heap.size w (.slice a1 xn.length c1) xn) (h4:Rd w.heap.size w (.slice a2 xd.length c2) xd) (h5:Rd w.heap.size w (.slice a3 yn.length c3) yn) (h6:Rd w.heap.size w (.slice a4 yd.length c4) yd) :
    Calls Tryz.prog 8 #[.agg #[.int .i64 io,.bool bt,.slice a5 tn.length c5,.slice a6 td.length c6,.int .i64 pp],.int .i32 gl,.agg #[.bool bx,.slice a1 xn.length c1,.slice a2 xd.length c2],.agg #[.bool cy,.slice a3 yn.length c3,.slice a4 yd.length c4]] w fun e w'=>Told (ErrS 23) w e w':=by
 obtain ⟨v,hA,g,E,Xb,Yb,R,sz4⟩:=lay4 w #[.int .i64 io,.bool bt,.slice a5 tn.length c5,.slice a6 td.length c6,.int .i64 pp] #[.bool bx,.slice a1 xn.length c1,.slice a2 xd.length c2] #[.bool cy,.slice a3 yn.length c3,.slice a4 yd.length c4] #[.bool false,.slice none 0 0,.slice none 0 0] 26 24 24 24;have HR:=six_rd h1 h2 h3 h4 h5 h6;clear h1 h2 h3 h4 h5 h6;have q1:=E.cell 1 rfl;have q2:=E.cell 2 rfl;have q3:=E.cell 3 rfl;go_enter Tryz.func8,Tryz.ntmps8
 go_wp2_with fail
 clear hA q1 q2 q3;refine (ofTwo_any bt a5 a6 _ _ _ _ v).mono ?_;rintro e w1 ⟨rfl,hT,b1⟩;have s1:=b1.size;have hg1:(Instr.lookup 60 (.map (some (w.heap.size+1+1+1+1+1))) (.int .i32 gl) false).run Tryz.prog w1=.ok (.nilFunc) w1:=by
  have:=MapIs.get (k:=gl) Tryz.underlying60 Tryz.underlying21 (zero_dyad w1) hT.tab;rw [hget,sz4] at this;exact this
 rw [sz4] at hT ⊢;have g1:Below w.heap.size w w1:=g.trans (b1.mono g.size);have R1:=R.below b1 (by omega);have hnf:=eq_nilF0 w1;clear E Xb Yb hT;obtain ⟨r0,r1,r2,f0,f1,f2⟩:=R1.six;obtain ⟨y0,y1,y2⟩:=R1.put3 (.bool false) (.slice none 0 0) (.slice none 0 0);go_wp2
 refine bodyPost_ret (v:=.tuple #[.agg #[.bool false,.slice none 0 0,.slice none 0 0],.int .i64 23]) (by simp [results,Tryz.results8,go_sem,y0,y1,y2]) rfl ?_;exact told_err 23 (Below.set3 g1 (by omega) _ _ _)
theorem two_all {S:Sp} (hget:∀ b,atKey .nilFunc gl (tab2 b)=.func (.func kf) #[] (caps b)) (HN:∀ args w,Sem.run Tryz.prog (callFunc kf args) w=.ok (.enter kf args) w) (hK:RightP bt tn td∧RightP bx xn xd∧RightP cy yn yd→∀ b w1,OfTwo b bt a5 tn.length c5 a6 td.length c6 w1→DyT kf (caps b) w1 a5 a6 c5 c6 bt tn td bx xn xd cy yn yd S) (h1:Rd w.heap.size w (.slice a5 tn.length c5) tn) (h2:Rd w.heap.size w (.slice a6 td.length c6) td) (h3:Rd w.heap.size w (.slice a1 xn.length c1) xn) (h4:Rd w.heap.size w (.slice a2 xd.length c2) xd) (h5:Rd w.heap.size w (.slice a3 yn.length c3) yn) (h6:Rd w.heap.size w (.slice a4 yd.length c4) yd) :
    Calls Tryz.prog 8 #[.agg #[.int .i64 io,.bool bt,.slice a5 tn.length c5,.slice a6 td.length c6,.int .i64 pp],.int .i32 gl,.agg #[.bool bx,.slice a1 xn.length c1,.slice a2 xd.length c2],.agg #[.bool cy,.slice a3 yn.length c3,.slice a4 yd.length c4]] w fun e w'=>Told (PartS (RightP bt tn td∧RightP bx xn xd∧RightP cy yn yd) S (ErrS 22)) w e w':=by
 have HK:=hidK hK;clear hK;obtain ⟨v,hA,g,E,Xb,Yb,R,sz4⟩:=lay4 w #[.int .i64 io,.bool bt,.slice a5 tn.length c5,.slice a6 td.length c6,.int .i64 pp] #[.bool bx,.slice a1 xn.length c1,.slice a2 xd.length c2] #[.bool cy,.slice a3 yn.length c3,.slice a4 yd.length c4] #[.bool false,.slice none 0 0,.slice none 0 0] 26 24 24 24;have HR:=six_rd h1 h2 h3 h4 h5 h6;clear h1 h2 h3 h4 h5 h6;have q1:=E.cell 1 rfl;have q2:=E.cell 2 rfl;have q3:=E.cell 3 rfl;go_enter Tryz.func8,Tryz.ntmps8
 go_wp2_with fail
 clear hA q1 q2 q3;refine (ofTwo_any bt a5 a6 _ _ _ _ v).mono ?_;rintro e w1 ⟨rfl,hT,b1⟩;have s1:=b1.size;have hg1:(Instr.lookup 60 (.map (some (w.heap.size+1+1+1+1+1))) (.int .i32 gl) false).run Tryz.prog w1=.ok (.func (.func kf) #[] (caps (w.heap.size+1+1+1+1))) w1:=by
  have:=MapIs.get (k:=gl) Tryz.underlying60 Tryz.underlying21 (zero_dyad w1) hT.tab;rw [hget,sz4] at this;exact this
 rw [sz4] at hT ⊢;have g1:Below w.heap.size w w1:=g.trans (b1.mono g.size);have R1:=R.below b1 (by omega);have E1:=E.below b1 (by omega);have X1:=Xb.below b1 (by omega);have Y1:=Yb.below b1 (by omega);have HDD:Hid (RightP bt tn td∧RightP bx xn xd∧RightP cy yn yd→DyT kf (caps (w.heap.size+1+1+1+1)) w1 a5 a6 c5 c6 bt tn td bx xn xd cy yn yd S):=fun hp=>HK.out hp _ _ hT;clear HK hT;generalize hcaps:caps (w.heap.size+1+1+1+1)=cs at *;clear hcaps;have hnf:=eq_nilF (.func kf) #[] cs;obtain ⟨x0,x1,x2,-⟩:=X1.six
 go_wp2_with fail
 clear hg1 x0 x1 x2;refine (right_rat (b:=bx) (HR.out _ g1).2.2.1 (HR.out _ g1).2.2.2.1 (Nat.le_refl _)).mono ?_;rintro e w2 ⟨⟨ra,rfl,ha⟩,b2⟩;have s2:=b2.size;have g2:Below w.heap.size w w2:=g1.trans (b2.mono g1.size);have E2:=E1.below b2 (by omega);have X2:=X1.below b2 (by omega);have Y2:=Y1.below b2 (by omega);have R2:=R1.below b2 (by omega)
 cases ra with
 | false=>
  have HN:Hid (¬ (RightP bt tn td∧RightP bx xn xd∧RightP cy yn yd)):=fun k=>no_right ha k.2.1;clear ha;obtain ⟨r0,r1,r2,f0,f1,f2⟩:=R2.six;obtain ⟨y0,y1,y2⟩:=R2.put3 (.bool false) (.slice none 0 0) (.slice none 0 0);go_wp2
  refine bodyPost_ret (v:=.tuple #[.agg #[.bool false,.slice none 0 0,.slice none 0 0],.int .i64 22]) (by simp [results,Tryz.results8,go_sem,y0,y1,y2]) rfl ?_;exact (told_err 22 (Below.set3 g2 (by omega) _ _ _)).no HN.out
 | true=>
  have HX:=hidK (ha.1 rfl);clear ha;obtain ⟨y0,y1,y2,-⟩:=Y2.six
  go_wp2_with fail
  clear y0 y1 y2;refine (right_rat (b:=cy) (HR.out _ g2).2.2.2.2.1 (HR.out _ g2).2.2.2.2.2 (Nat.le_refl _)).mono ?_;rintro e w3 ⟨⟨ra,rfl,ha⟩,b3⟩;have s3:=b3.size;have g3:Below w.heap.size w w3:=g2.trans (b3.mono g2.size);have E3:=E2.below b3 (by omega);have X3:=X2.below b3 (by omega);have Y3:=Y2.below b3 (by omega);have R3:=R2.below b3 (by omega)
  cases ra with
  | false=>
   have HN:Hid (¬ (RightP bt tn td∧RightP bx xn xd∧RightP cy yn yd)):=fun k=>no_right ha k.2.2;clear ha;obtain ⟨r0,r1,r2,f0,f1,f2⟩:=R3.six;obtain ⟨y0,y1,y2⟩:=R3.put3 (.bool false) (.slice none 0 0) (.slice none 0 0);go_wp2
   refine bodyPost_ret (v:=.tuple #[.agg #[.bool false,.slice none 0 0,.slice none 0 0],.int .i64 22]) (by simp [results,Tryz.results8,go_sem,y0,y1,y2]) rfl ?_;exact (told_err 22 (Below.set3 g3 (by omega) _ _ _)).no HN.out
  | true=>
   have HY:=hidK (ha.1 rfl);clear ha;have q1:=E3.cell 1 rfl;have q2:=E3.cell 2 rfl;have q3:=E3.cell 3 rfl
   go_wp2_with fail
   clear q1 q2 q3;refine (right_rat (b:=bt) (HR.out _ g3).1 (HR.out _ g3).2.1 (Nat.le_refl _)).mono ?_;rintro e w4 ⟨⟨ra,rfl,ha⟩,b4⟩;have s4:=b4.size;have g4:Below w.heap.size w w4:=g3.trans (b4.mono g3.size);have E4:=E3.below b4 (by omega);have X4:=X3.below b4 (by omega);have Y4:=Y3.below b4 (by omega);have R4:=R3.below b4 (by omega)
   cases ra with
   | false=>
    have HN:Hid (¬ (RightP bt tn td∧RightP bx xn xd∧RightP cy yn yd)):=fun k=>no_right ha k.1;clear ha;obtain ⟨r0,r1,r2,f0,f1,f2⟩:=R4.six;obtain ⟨y0,y1,y2⟩:=R4.put3 (.bool false) (.slice none 0 0) (.slice none 0 0);go_wp2
    refine bodyPost_ret (v:=.tuple #[.agg #[.bool false,.slice none 0 0,.slice none 0 0],.int .i64 22]) (by simp [results,Tryz.results8,go_sem,y0,y1,y2]) rfl ?_;exact (told_err 22 (Below.set3 g4 (by omega) _ _ _)).no HN.out
   | true=>
    have HT:=hidK (ha.1 rfl);clear ha;have k14:Below w1.heap.size w1 w4:=(b2.trans (b3.mono s2)).trans (b4.mono (by omega));have HP:=hidK (And.intro HT.out (And.intro HX.out HY.out));have C1:=HDD.out HP.out w4 k14 a1 a2 a3 a4 c1 c2 c3 c4 (HR.out _ g4).1 (HR.out _ g4).2.1 (HR.out _ g4).2.2.1 (HR.out _ g4).2.2.2.1 (HR.out _ g4).2.2.2.2.1 (HR.out _ g4).2.2.2.2.2;have C2:Hid (Calls Tryz.prog kf _ w4 _):=C1;clear C1 k14;obtain ⟨x0,x1,x2,-⟩:=X4.six;obtain ⟨y0,y1,y2,-⟩:=Y4.six
    go_wp2_with fail
    clear x0 x1 x2 y0 y1 y2;refine C2.out.mono ?_;clear C2;rintro e w5 ⟨b,ns,ds,err,HS,b5,z1,u1,z2,u2,rfl,q1,q2⟩;have s5:=b5.size;have g5:Below w.heap.size w w5:=g4.trans (b5.mono g4.size);have R5:=R4.below b5 (by omega);have Q1:=hidK q1;have Q2:=hidK q2;clear q1 q2;obtain ⟨r0,r1,r2,f0,f1,f2⟩:=R5.six;obtain ⟨y0,y1,y2⟩:=R5.put3 (.bool b) (.slice z1 ns.length u1) (.slice z2 ds.length u2);go_wp2
    refine bodyPost_ret (v:=.tuple #[.agg #[.bool b,.slice z1 ns.length u1,.slice z2 ds.length u2],.int .i64 err]) (by simp [results,Tryz.results8,go_sem,y0,y1,y2]) rfl ?_;exact (told_put HS g5 Q1.out Q2.out R5 (by omega)).yes HP.out
end
theorem uq_ite {p:Prop} [Decidable p] {S T:Sp} (h:Uq S) (k:Uq T):Uq (if p then S else T):=by
 by_cases hp:p
 · rw [if_pos hp];exact h
 · rw [if_neg hp];exact k
def OneS (g:Int) (b:Bool) (xn xd:List Int):Sp:=
 if g=43 then NumS b xn xd else if g=45 then OutSpec (RightP b xn xd) (-(sg b (val xn))) (val xd) else if g=215 then WholeS (cmpI (sg b (val xn)) 0) else if g=247 then QuotSpec (RightP false [1] [1]∧RightP b xn xd) false [1] [1] b xn xd else if g=8968 then OutSpec (RightP b xn xd) (-((-(sg b (val xn)))/val xd)) 1 else if g=8970 then OutSpec (RightP b xn xd) (sg b (val xn)/val xd) 1 else if g=124 then OutSpec (RightP b xn xd) (val xn) (val xd) else if g=42 then (if xn.length=0 then NumS false [1] [1] else ErrS 3) else if g=33 then CountSpec (RightP b xn xd) (IsCount b xd) (nfact (val xn).toNat) else (if bitB b xn xd=true then NumS false (bitL (decide (xn=[]))) [1] else ErrS 3)
theorem uq_one {g:Int} {b:Bool} {xn xd:List Int}:Uq (OneS g b xn xd):=by
 unfold OneS
 repeat' split
 · exact uq_num _ _ _
 · exact uq_out fun h=>(right_pos h).1
 · exact uq_whole _
 · exact uq_quot
 · exact uq_out fun _=>by decide
 · exact uq_out fun _=>by decide
 · exact uq_out fun h=>(right_pos h).1
 · exact uq_num _ _ _
 · exact uq_err _
 · exact uq_count
 · exact uq_num _ _ _
 · exact uq_err _
/-- What a comparison finds. -/
abbrev TolR (bt:Bool) (tn td:List Int) (bx:Bool) (xn xd:List Int) (cy:Bool) (yn yd:List Int) (r:Int):Prop:=TolIs (RightP bt tn td∧RightP bx xn xd∧RightP cy yn yd) (WithinI bt (val tn) (val td) (apartI bx (val xn) (val xd) cy (val yn) (val yd)) (val xn) (val xd) (val yn) (val yd)) (sg bx (val xn)*val yd) (sg cy (val yn)*val xd) r
/-- A comparison's answer. -/
def CmpS (Rb:Int→Bool) (T:Int→Prop):Sp:=fun b ns ds err=>err=0∧∃ r,T r∧b=false∧ns=bitL (Rb r)∧ds=[1]
theorem uq_cmp {Rb:Int→Bool} {T:Int→Prop} (h:∀ r s,T r→T s→s=r):Uq (CmpS Rb T):=by
 rintro b ns ds e c ms es f ⟨rfl,r,hr,rfl,rfl,rfl⟩ ⟨rfl,s,hs,rfl,rfl,rfl⟩;obtain rfl:=h r s hr hs;exact ⟨rfl,rfl,rfl,rfl⟩
/-- The greater one, the lesser one. -/
def PickS (first:Prop) [Decidable first] (bx:Bool) (xn xd:List Int) (cy:Bool) (yn yd:List Int):Sp:=if first then NumS bx xn xd else NumS cy yn yd
theorem uq_pick {p:Prop} [Decidable p] {bx cy:Bool} {xn xd yn yd:List Int}:Uq (PickS p bx xn xd cy yn yd):=by
 unfold PickS
 split
 · exact uq_num _ _ _
 · exact uq_num _ _ _
/-- A function of two bits. -/
def LogS (op:Bool→Bool→Bool) (bx:Bool) (xn xd:List Int) (cy:Bool) (yn yd:List Int):Sp:=if (bitB bx xn xd && bitB cy yn yd)=true then NumS false (bitL (op (decide (xn≠[])) (decide (yn≠[])))) [1] else ErrS 3
theorem uq_log {op:Bool→Bool→Bool} {bx cy:Bool} {xn xd yn yd:List Int}:Uq (LogS op bx xn xd cy yn yd):=by
 unfold LogS
 split
 · exact uq_num _ _ _
 · exact uq_err _
def TwoS (g:Int) (bt:Bool) (tn td:List Int) (bx:Bool) (xn xd:List Int) (cy:Bool) (yn yd:List Int):Sp:=
 if g=43 then OutSpec (RightP bx xn xd∧RightP cy yn yd) (sg bx (val xn)*val yd+sg cy (val yn)*val xd) (val xd*val yd)
 else if g=45 then OutSpec (RightP bx xn xd∧RightP cy yn yd) (sg bx (val xn)*val yd+sg (!cy) (val yn)*val xd) (val xd*val yd)
 else if g=215 then OutSpec (RightP bx xn xd∧RightP cy yn yd) (sg bx (val xn)*sg cy (val yn)) (val xd*val yd)
 else if g=247 then QuotSpec (RightP bx xn xd∧RightP cy yn yd) bx xn xd cy yn yd
 else if g=8968 then PickS (¬ sg bx (val xn)*val yd<sg cy (val yn)*val xd) bx xn xd cy yn yd
 else if g=8970 then PickS (¬ sg cy (val yn)*val xd<sg bx (val xn)*val yd) bx xn xd cy yn yd
 else if g=124 then ResSpec (RightP bx xn xd∧RightP cy yn yd) bx xn xd cy yn yd
 else if g=42 then PowSpec (RightP bx xn xd∧RightP cy yn yd) bx xn xd cy yn yd
 else if g=33 then CountSpec (RightP bx xn xd∧RightP cy yn yd) (IsCount bx xd∧IsCount cy yd) (binom (val yn).toNat (val xn).toNat)
 else if g=60 then CmpS (fun r=>decide (r<0)) (TolR bt tn td bx xn xd cy yn yd)
 else if g=8804 then CmpS (fun r=>decide (r≤0)) (TolR bt tn td bx xn xd cy yn yd)
 else if g=61 then CmpS (fun r=>decide (r=0)) (TolR bt tn td bx xn xd cy yn yd)
 else if g=8805 then CmpS (fun r=>decide (0≤r)) (TolR bt tn td bx xn xd cy yn yd)
 else if g=62 then CmpS (fun r=>decide (0<r)) (TolR bt tn td bx xn xd cy yn yd)
 else if g=8800 then CmpS (fun r => !decide (r=0)) (TolR bt tn td bx xn xd cy yn yd)
 else if g=8743 then LogS (fun a b=>a && b) bx xn xd cy yn yd
 else if g=8744 then LogS (fun a b=>a || b) bx xn xd cy yn yd
 else if g=9074 then LogS (fun a b => !(a && b)) bx xn xd cy yn yd
 else LogS (fun a b => !(a || b)) bx xn xd cy yn yd
theorem uq_two {g:Int} {bt bx cy:Bool} {tn td xn xd yn yd:List Int}:Uq (TwoS g bt tn td bx xn xd cy yn yd):=by
 have hT:∀ r s,TolR bt tn td bx xn xd cy yn yd r→TolR bt tn td bx xn xd cy yn yd s→s=r:=fun r s h k=>TolIs.unique h k;have hD:RightP bx xn xd∧RightP cy yn yd→0<val xd*val yd:=fun h=>Int.mul_pos (right_pos h.1).1 (right_pos h.2).1;have hE:RightP bx xn xd∧RightP cy yn yd→0<val yd*val xd:=fun h=>Int.mul_pos (right_pos h.2).1 (right_pos h.1).1;unfold TwoS
 repeat' first | exact uq_out hD | exact uq_quot | exact uq_pick | exact uq_res hE | exact uq_pow | exact uq_count | exact uq_cmp hT | exact uq_log | apply uq_ite
section
variable {bt bx cy:Bool} {tn td xn xd yn yd:List Int}
theorem oneS_43:OneS 43 bx xn xd=(NumS bx xn xd):=by unfold OneS;rw [if_pos rfl]
theorem oneS_45:OneS 45 bx xn xd=(OutSpec (RightP bx xn xd) (-(sg bx (val xn))) (val xd)):=by unfold OneS;rw [if_neg (by decide),if_pos rfl]
theorem oneS_215:OneS 215 bx xn xd=(WholeS (cmpI (sg bx (val xn)) 0)):=by unfold OneS;rw [if_neg (by decide),if_neg (by decide),if_pos rfl]
theorem oneS_247:OneS 247 bx xn xd=(QuotSpec (RightP false [1] [1]∧RightP bx xn xd) false [1] [1] bx xn xd):=by unfold OneS;rw [if_neg (by decide),if_neg (by decide),if_neg (by decide),if_pos rfl]
theorem oneS_8968:OneS 8968 bx xn xd=(OutSpec (RightP bx xn xd) (-((-(sg bx (val xn)))/val xd)) 1):=by unfold OneS;rw [if_neg (by decide),if_neg (by decide),if_neg (by decide),if_neg (by decide),if_pos rfl]
theorem oneS_8970:OneS 8970 bx xn xd=(OutSpec (RightP bx xn xd) (sg bx (val xn)/val xd) 1):=by unfold OneS;rw [if_neg (by decide),if_neg (by decide),if_neg (by decide),if_neg (by decide),if_neg (by decide),if_pos rfl]
theorem oneS_124:OneS 124 bx xn xd=(OutSpec (RightP bx xn xd) (val xn) (val xd)):=by unfold OneS;rw [if_neg (by decide),if_neg (by decide),if_neg (by decide),if_neg (by decide),if_neg (by decide),if_neg (by decide),if_pos rfl]
theorem oneS_42:OneS 42 bx xn xd=((if xn.length=0 then NumS false [1] [1] else ErrS 3)):=by unfold OneS;rw [if_neg (by decide),if_neg (by decide),if_neg (by decide),if_neg (by decide),if_neg (by decide),if_neg (by decide),if_neg (by decide),if_pos rfl]
theorem oneS_33:OneS 33 bx xn xd=(CountSpec (RightP bx xn xd) (IsCount bx xd) (nfact (val xn).toNat)):=by unfold OneS;rw [if_neg (by decide),if_neg (by decide),if_neg (by decide),if_neg (by decide),if_neg (by decide),if_neg (by decide),if_neg (by decide),if_neg (by decide),if_pos rfl]
theorem oneS_126:OneS 126 bx xn xd=((if bitB bx xn xd=true then NumS false (bitL (decide (xn=[]))) [1] else ErrS 3)):=by unfold OneS;rw [if_neg (by decide),if_neg (by decide),if_neg (by decide),if_neg (by decide),if_neg (by decide),if_neg (by decide),if_neg (by decide),if_neg (by decide),if_neg (by decide)]
theorem twoS_43:TwoS 43 bt tn td bx xn xd cy yn yd=(OutSpec (RightP bx xn xd∧RightP cy yn yd) (sg bx (val xn)*val yd+sg cy (val yn)*val xd) (val xd*val yd)):=by unfold TwoS;rw [if_pos rfl]
theorem twoS_45:TwoS 45 bt tn td bx xn xd cy yn yd=(OutSpec (RightP bx xn xd∧RightP cy yn yd) (sg bx (val xn)*val yd+sg (!cy) (val yn)*val xd) (val xd*val yd)):=by unfold TwoS;rw [if_neg (by decide),if_pos rfl]
theorem twoS_215:TwoS 215 bt tn td bx xn xd cy yn yd=(OutSpec (RightP bx xn xd∧RightP cy yn yd) (sg bx (val xn)*sg cy (val yn)) (val xd*val yd)):=by unfold TwoS;rw [if_neg (by decide),if_neg (by decide),if_pos rfl]
theorem twoS_247:TwoS 247 bt tn td bx xn xd cy yn yd=(QuotSpec (RightP bx xn xd∧RightP cy yn yd) bx xn xd cy yn yd):=by unfold TwoS;rw [if_neg (by decide),if_neg (by decide),if_neg (by decide),if_pos rfl]
theorem twoS_8968:TwoS 8968 bt tn td bx xn xd cy yn yd=(PickS (¬ sg bx (val xn)*val yd<sg cy (val yn)*val xd) bx xn xd cy yn yd):=by unfold TwoS;rw [if_neg (by decide),if_neg (by decide),if_neg (by decide),if_neg (by decide),if_pos rfl]
theorem twoS_8970:TwoS 8970 bt tn td bx xn xd cy yn yd=(PickS (¬ sg cy (val yn)*val xd<sg bx (val xn)*val yd) bx xn xd cy yn yd):=by unfold TwoS;rw [if_neg (by decide),if_neg (by decide),if_neg (by decide),if_neg (by decide),if_neg (by decide),if_pos rfl]
theorem twoS_124:TwoS 124 bt tn td bx xn xd cy yn yd=(ResSpec (RightP bx xn xd∧RightP cy yn yd) bx xn xd cy yn yd):=by unfold TwoS;rw [if_neg (by decide),if_neg (by decide),if_neg (by decide),if_neg (by decide),if_neg (by decide),if_neg (by decide),if_pos rfl]
theorem twoS_42:TwoS 42 bt tn td bx xn xd cy yn yd=(PowSpec (RightP bx xn xd∧RightP cy yn yd) bx xn xd cy yn yd):=by unfold TwoS;rw [if_neg (by decide),if_neg (by decide),if_neg (by decide),if_neg (by decide),if_neg (by decide),if_neg (by decide),if_neg (by decide),if_pos rfl]
theorem twoS_33:TwoS 33 bt tn td bx xn xd cy yn yd=(CountSpec (RightP bx xn xd∧RightP cy yn yd) (IsCount bx xd∧IsCount cy yd) (binom (val yn).toNat (val xn).toNat)):=by unfold TwoS;rw [if_neg (by decide),if_neg (by decide),if_neg (by decide),if_neg (by decide),if_neg (by decide),if_neg (by decide),if_neg (by decide),if_neg (by decide),if_pos rfl]
theorem twoS_60:TwoS 60 bt tn td bx xn xd cy yn yd=(CmpS (fun r=>decide (r<0)) (TolR bt tn td bx xn xd cy yn yd)):=by unfold TwoS;rw [if_neg (by decide),if_neg (by decide),if_neg (by decide),if_neg (by decide),if_neg (by decide),if_neg (by decide),if_neg (by decide),if_neg (by decide),if_neg (by decide),if_pos rfl]
theorem twoS_8804:TwoS 8804 bt tn td bx xn xd cy yn yd=(CmpS (fun r=>decide (r≤0)) (TolR bt tn td bx xn xd cy yn yd)):=by unfold TwoS;rw [if_neg (by decide),if_neg (by decide),if_neg (by decide),if_neg (by decide),if_neg (by decide),if_neg (by decide),if_neg (by decide),if_neg (by decide),if_neg (by decide),if_neg (by decide),if_pos rfl]
theorem twoS_61:TwoS 61 bt tn td bx xn xd cy yn yd=(CmpS (fun r=>decide (r=0)) (TolR bt tn td bx xn xd cy yn yd)):=by unfold TwoS;rw [if_neg (by decide),if_neg (by decide),if_neg (by decide),if_neg (by decide),if_neg (by decide),if_neg (by decide),if_neg (by decide),if_neg (by decide),if_neg (by decide),if_neg (by decide),if_neg (by decide),if_pos rfl]
theorem twoS_8805:TwoS 8805 bt tn td bx xn xd cy yn yd=(CmpS (fun r=>decide (0≤r)) (TolR bt tn td bx xn xd cy yn yd)):=by unfold TwoS;rw [if_neg (by decide),if_neg (by decide),if_neg (by decide),if_neg (by decide),if_neg (by decide),if_neg (by decide),if_neg (by decide),if_neg (by decide),if_neg (by decide),if_neg (by decide),if_neg (by decide),if_neg (by decide),if_pos rfl]
theorem twoS_62:TwoS 62 bt tn td bx xn xd cy yn yd=(CmpS (fun r=>decide (0<r)) (TolR bt tn td bx xn xd cy yn yd)):=by unfold TwoS;rw [if_neg (by decide),if_neg (by decide),if_neg (by decide),if_neg (by decide),if_neg (by decide),if_neg (by decide),if_neg (by decide),if_neg (by decide),if_neg (by decide),if_neg (by decide),if_neg (by decide),if_neg (by decide),if_neg (by decide),if_pos rfl]
theorem twoS_8800:TwoS 8800 bt tn td bx xn xd cy yn yd=(CmpS (fun r => !decide (r=0)) (TolR bt tn td bx xn xd cy yn yd)):=by unfold TwoS;rw [if_neg (by decide),if_neg (by decide),if_neg (by decide),if_neg (by decide),if_neg (by decide),if_neg (by decide),if_neg (by decide),if_neg (by decide),if_neg (by decide),if_neg (by decide),if_neg (by decide),if_neg (by decide),if_neg (by decide),if_neg (by decide),if_pos rfl]
theorem twoS_8743:TwoS 8743 bt tn td bx xn xd cy yn yd=(LogS (fun a b=>a && b) bx xn xd cy yn yd):=by unfold TwoS;rw [if_neg (by decide),if_neg (by decide),if_neg (by decide),if_neg (by decide),if_neg (by decide),if_neg (by decide),if_neg (by decide),if_neg (by decide),if_neg (by decide),if_neg (by decide),if_neg (by decide),if_neg (by decide),if_neg (by decide),if_neg (by decide),if_neg (by decide),if_pos rfl]
theorem twoS_8744:TwoS 8744 bt tn td bx xn xd cy yn yd=(LogS (fun a b=>a || b) bx xn xd cy yn yd):=by unfold TwoS;rw [if_neg (by decide),if_neg (by decide),if_neg (by decide),if_neg (by decide),if_neg (by decide),if_neg (by decide),if_neg (by decide),if_neg (by decide),if_neg (by decide),if_neg (by decide),if_neg (by decide),if_neg (by decide),if_neg (by decide),if_neg (by decide),if_neg (by decide),if_neg (by decide),if_pos rfl]
theorem twoS_9074:TwoS 9074 bt tn td bx xn xd cy yn yd=(LogS (fun a b => !(a && b)) bx xn xd cy yn yd):=by unfold TwoS;rw [if_neg (by decide),if_neg (by decide),if_neg (by decide),if_neg (by decide),if_neg (by decide),if_neg (by decide),if_neg (by decide),if_neg (by decide),if_neg (by decide),if_neg (by decide),if_neg (by decide),if_neg (by decide),if_neg (by decide),if_neg (by decide),if_neg (by decide),if_neg (by decide),if_neg (by decide),if_pos rfl]
theorem twoS_9073:TwoS 9073 bt tn td bx xn xd cy yn yd=(LogS (fun a b => !(a || b)) bx xn xd cy yn yd):=by unfold TwoS;rw [if_neg (by decide),if_neg (by decide),if_neg (by decide),if_neg (by decide),if_neg (by decide),if_neg (by decide),if_neg (by decide),if_neg (by decide),if_neg (by decide),if_neg (by decide),if_neg (by decide),if_neg (by decide),if_neg (by decide),if_neg (by decide),if_neg (by decide),if_neg (by decide),if_neg (by decide),if_neg (by decide)]
end
theorem holdB_13:HoldB 107 (fun a b => !(a || b)):=by
 refine ⟨?_,enterB Tryz.func107 (by kernel_rfl) (by kernel_rfl)⟩;intro a b w
 cases a <;> cases b
 all_goals
  go_enter Tryz.func107,Tryz.ntmps107;go_wp2
  go_ret
  exact ⟨rfl,rfl⟩
section
variable {w:World} {bx cy:Bool} {a1 a2 a3 a4:Option Addr} {xn xd yn yd:List Int} {c1 c2 c3 c4:Nat} {gl:Int} {p q bh:Nat} {B C:Bool}
theorem logical5_noS (HC:Hid (∀ v p q,Below w.heap.size w v→RatC v p (.bool bx) (.slice a1 xn.length c1) (.slice a2 xd.length c2)→RatC v q (.bool cy) (.slice a3 yn.length c3) (.slice a4 yd.length c4)→(Calls Tryz.prog 122 #[.pointer (some ⟨p,0,none⟩)] v fun e w'=>e=.returned (.bool B)∧w'=v)∧(Calls Tryz.prog 122 #[.pointer (some ⟨q,0,none⟩)] v fun e w'=>e=.returned (.bool C)∧w'=v))) (hn:(B && C)=false) :
    Calls Tryz.prog 152 #[.agg #[.bool bx,.slice a1 xn.length c1,.slice a2 xd.length c2],.agg #[.bool cy,.slice a3 yn.length c3,.slice a4 yd.length c4],.pointer (some ⟨bh,0,none⟩)] w fun e w'=>e=.returned (.tuple #[.agg #[.bool false,.slice none 0 0,.slice none 0 0],.int .i64 3])∧Below w.heap.size w w':=by
 have k1:=below_alloc w (.cells #[.bool bx,.slice a1 xn.length c1,.slice a2 xd.length c2] 24);have k2:=below_alloc (w.alloc (.cells #[.bool bx,.slice a1 xn.length c1,.slice a2 xd.length c2] 24)) (.cells #[.bool cy,.slice a3 yn.length c3,.slice a4 yd.length c4] 24);have k3:=below_alloc ((w.alloc (.cells #[.bool bx,.slice a1 xn.length c1,.slice a2 xd.length c2] 24)).alloc (.cells #[.bool cy,.slice a3 yn.length c3,.slice a4 yd.length c4] 24)) (.cells #[.bool false,.slice none 0 0,.slice none 0 0] 24);have k23:Below (w.alloc (.cells #[.bool bx,.slice a1 xn.length c1,.slice a2 xd.length c2] 24)).heap.size (w.alloc (.cells #[.bool bx,.slice a1 xn.length c1,.slice a2 xd.length c2] 24)) (((w.alloc (.cells #[.bool bx,.slice a1 xn.length c1,.slice a2 xd.length c2] 24)).alloc (.cells #[.bool cy,.slice a3 yn.length c3,.slice a4 yd.length c4] 24)).alloc (.cells #[.bool false,.slice none 0 0,.slice none 0 0] 24)):=k2.trans (k3.mono (by simp));have g:Below w.heap.size w (((w.alloc (.cells #[.bool bx,.slice a1 xn.length c1,.slice a2 xd.length c2] 24)).alloc (.cells #[.bool cy,.slice a3 yn.length c3,.slice a4 yd.length c4] 24)).alloc (.cells #[.bool false,.slice none 0 0,.slice none 0 0] 24)):=k1.trans (k23.mono (by simp));have XB:=(boxA_new w #[.bool bx,.slice a1 xn.length c1,.slice a2 xd.length c2] 24).below k23 (by simp);have YB:=(boxA_new (w.alloc (.cells #[.bool bx,.slice a1 xn.length c1,.slice a2 xd.length c2] 24)) #[.bool cy,.slice a3 yn.length c3,.slice a4 yd.length c4] 24).below k3 (by simp);have RB:=boxA_new ((w.alloc (.cells #[.bool bx,.slice a1 xn.length c1,.slice a2 xd.length c2] 24)).alloc (.cells #[.bool cy,.slice a3 yn.length c3,.slice a4 yd.length c4] 24)) #[.bool false,.slice none 0 0,.slice none 0 0] 24;rw [World.size_alloc] at YB;have sz:((w.alloc (.cells #[.bool bx,.slice a1 xn.length c1,.slice a2 xd.length c2] 24)).alloc (.cells #[.bool cy,.slice a3 yn.length c3,.slice a4 yd.length c4] 24)).heap.size=w.heap.size+1+1:=by simp
 rw [sz] at RB;obtain ⟨CX,CY⟩:=HC.out _ w.heap.size (w.heap.size+1) g ⟨XB.cell 0 rfl,XB.cell 1 rfl,XB.cell 2 rfl⟩ ⟨YB.cell 0 rfl,YB.cell 1 rfl,YB.cell 2 rfl⟩;clear k1 k2 k3 k23 sz HC
 cases B with
 | false=>
  go_enter Tryz.func152,Tryz.ntmps152
  go_wp2_with fail
  generalize hA:((w.alloc (.cells #[.bool bx,.slice a1 xn.length c1,.slice a2 xd.length c2] 24)).alloc (.cells #[.bool cy,.slice a3 yn.length c3,.slice a4 yd.length c4] 24)).alloc (.cells #[.bool false,.slice none 0 0,.slice none 0 0] 24)=v at *;clear hA;refine CX.mono ?_;rintro e w1 ⟨rfl,hw⟩;obtain rfl:=hw.symm;clear CX CY;have r0:=RB.cell 0 rfl;have r1:=RB.cell 1 rfl;have r2:=RB.cell 2 rfl;have f0:=RB.frozen 0;have f1:=RB.frozen 1;have f2:=RB.frozen 2;have R3:=((RB.put 0 (.bool false)).put 1 (.slice none 0 0)).put 2 (.slice none 0 0);have j0:=R3.cell 0 rfl;have j1:=R3.cell 1 rfl;have j2:=R3.cell 2 rfl;go_wp2
  refine bodyPost_ret (v:=.tuple #[.agg #[.bool false,.slice none 0 0,.slice none 0 0],.int .i64 3]) (by simp [results,Tryz.results152,go_sem,j0,j1,j2]) rfl ?_;exact ⟨rfl,Below.set3 g (by omega) _ _ _⟩
 | true=>
  obtain rfl:C=false:=by simpa using hn
  go_enter Tryz.func152,Tryz.ntmps152
  go_wp2_with fail
  generalize hA:((w.alloc (.cells #[.bool bx,.slice a1 xn.length c1,.slice a2 xd.length c2] 24)).alloc (.cells #[.bool cy,.slice a3 yn.length c3,.slice a4 yd.length c4] 24)).alloc (.cells #[.bool false,.slice none 0 0,.slice none 0 0] 24)=v at *;clear hA;refine CX.mono ?_;rintro e w1 ⟨rfl,hw⟩;obtain rfl:=hw.symm;clear CX
  go_wp2_with fail
  refine CY.mono ?_;rintro e w1 ⟨rfl,hw⟩;obtain rfl:=hw.symm;clear CY;have r0:=RB.cell 0 rfl;have r1:=RB.cell 1 rfl;have r2:=RB.cell 2 rfl;have f0:=RB.frozen 0;have f1:=RB.frozen 1;have f2:=RB.frozen 2;have R3:=((RB.put 0 (.bool false)).put 1 (.slice none 0 0)).put 2 (.slice none 0 0);have j0:=R3.cell 0 rfl;have j1:=R3.cell 1 rfl;have j2:=R3.cell 2 rfl;go_wp2
  refine bodyPost_ret (v:=.tuple #[.agg #[.bool false,.slice none 0 0,.slice none 0 0],.int .i64 3]) (by simp [results,Tryz.results152,go_sem,j0,j1,j2]) rfl ?_;exact ⟨rfl,Below.set3 g (by omega) _ _ _⟩
end
end Go.Proofs.YtilbfkabfgnhpaaGreat
