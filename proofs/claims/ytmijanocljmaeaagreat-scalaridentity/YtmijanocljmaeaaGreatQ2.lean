/- scalar.same and rat.Neg as functions of one number. -/
import Derived.Test.YtmijanocljmaeaaGreatQ1
import Derived.Test.YtmijanocljmaeaaGreatP9
import Derived.Test.YtmijanocljmaeaaGreatP6
import Derived.Test.YtmijanocljmaeaaGreatK8
import Derived.Test.YtmijanocljmaeaaGreatP5
set_option linter.unusedVariables false
set_option linter.unusedSimpArgs false
namespace Go.Proofs.YtmijanocljmaeaaGreat
open Go.RowKit
def sameM:Mo:=⟨43,47,fun x=>(0,numT x.b x.ns x.ds)⟩
theorem moOK_same:MoOK sameM:=by
 refine ⟨enterB Tryz.func47 (by kernel_rfl) (by kernel_rfl),?_⟩;intro w bx a1 a2 ns ds c1 c2 hP h1 h2;refine (same5_any h1 h2 hP).mono ?_;rintro e w' ⟨⟨x1,y1,x2,y2,rfl,o1,o2⟩,hb⟩;exact ⟨⟨bx,x1,ns,y1,x2,ds,y2,rfl,o1,o2,fun _=>rfl⟩,hb⟩
section
variable {D:Nat→Prop} {f:Nat} {w:World} {io pp:Int} {bc:Bool} {e1 e2:Option Addr} {cn cd:List Int} {f1 f2:Nat} {x1 x2:Option Addr} {n1 y1 n2 y2:Nat} {t:Tr}
theorem monadic_same (hI:M5In D f w bc e1 e2 cn cd f1 f2 x1 x2 n1 y1 n2 y2 t) :
    Calls Tryz.prog 11 #[.agg #[.int .i64 io,.bool bc,.slice e1 cn.length f1,.slice e2 cd.length f2,.int .i64 pp],.int .i32 43,.agg #[.slice x1 n1 y1,.slice x2 n2 y2]] w fun e w'=>WhR w.heap.size 15 (monS sameM t) e w'∧Below w.heap.size w w':=
 monadicM_any (m:=sameM) (kf:=47) rfl moOK_same rfl hI
end
/-- What is told of a right number is a right number. -/
def MoR (m:Mo):Prop:=∀ x,NumOK x→(m.op x).1=0→NumOK (m.op x).2
theorem measL_le {I J:Tr→Option (Int×Int)}:∀ (l l':List Tr) (w w' p:Int×Int),l.length=l'.length→(∀ i,i<l.length→∀ q,I (l.getD i tr0)=some q→∃ q',J (l'.getD i tr0)=some q'∧q'.2≤q.2)→w'.2≤w.2→measL I l w=some p→∃ p',measL J l' w'=some p'∧p'.2≤p.2
 | [],[],w,w',p,_,_,hw,h=>by
  rw [measL] at h ⊢
  cases h
  exact ⟨w',rfl,hw⟩
 | [],_ :: _,_,_,_,hl,_,_,_=>by simp at hl
 | _ :: _,[],_,_,_,hl,_,_,_=>by simp at hl
 | t :: r,t' :: r',w,w',p,hl,hI,hw,h=>by
  rw [measL] at h
  cases hq:I t with
  | none=>rw [hq] at h;cases h
  | some q=>
   rw [hq] at h;dsimp only at h;by_cases hb:16384<w.2+q.2
   · rw [if_pos hb] at h;cases h
   · rw [if_neg hb] at h
     obtain ⟨q',e',hle⟩:=hI 0 (by simp) q (by simpa using hq);replace e':J t'=some q':=by simpa using e'
     rw [measL,e'];dsimp only;rw [if_neg (by omega)];exact measL_le r r' _ _ p (by simpa using hl) (fun i hi q hq=>by
      have:=hI (i+1) (by simp;omega) q (by simpa using hq);simpa using this) (by show w'.2+q'.2≤w.2+q.2;omega) h
theorem measL_ge2 {I:Tr→Option (Int×Int)} (hI:∀ t q,I t=some q→0≤q.2):∀ (l:List Tr) (w p:Int×Int),measL I l w=some p→w.2≤p.2
 | [],w,p,h=>by rw [measL] at h;cases h;exact Int.le_refl _
 | t :: r,w,p,h=>by
  rw [measL] at h
  cases hq:I t with
  | none=>rw [hq] at h;cases h
  | some q=>
   rw [hq] at h;dsimp only at h;by_cases hb:16384<w.2+q.2
   · rw [if_pos hb] at h;cases h
   · rw [if_neg hb] at h
     have h1:=measL_ge2 hI r _ p h;have h2:=hI t q hq;simp only at h1;omega
theorem measF_pos:∀ (L:Nat) (t:Tr) (p:Int×Int),measF L t=some p→1≤p.2
 | 0,t,p,h=>by rw [measF] at h;cases h
 | L+1,t,p,h=>by
  by_cases hc:(sizeF t.ns).2=0∧(t.kids.length:Int)=max (sizeF t.ns).1 1
  · rw [measF,if_pos hc] at h
    cases hm:measL (measI (measF L)) t.kids (1,(t.kids.length:Int)) with
    | none=>rw [hm] at h;cases h
    | some q=>
     rw [hm] at h;dsimp only at h
     cases h
     have:=measL_ge2 (fun x q hq=>by
      unfold measI at hq
      split at hq
      · split at hq
        · cases hq;exact Int.le_refl _
        · cases hq
      · split at hq
        · split at hq
          · cases hq;exact Int.le_refl _
          · cases hq
        · split at hq
          · split at hq
            · have:=measF_pos L _ q hq;omega
            · cases hq
          · cases hq) _ _ _ hm
     simp only at this;show 1≤q.2;omega
  · rw [measF,if_neg hc] at h;cases h
theorem size_of_zero {sh:List Int} (h2:(sizeF sh).2=0) (h:sh.contains 0=true):(sizeF sh).1=0:=by
 have hm:(0:Int)∈sh:=by simpa using h
 have hl:=(foldl_lo sh 1).2 0 hm;have hl0:loF sh≤0:=hl;unfold sizeF at h2 ⊢;by_cases c1:8<sh.length
 · rw [if_pos c1]
 · rw [if_neg c1] at h2 ⊢
   by_cases c2:loF sh<0
   · rw [if_pos c2]
   · rw [if_neg c2] at h2 ⊢
     by_cases c3:4096<hiF sh
     · rw [if_pos c3]
     · rw [if_neg c3] at h2 ⊢
       rw [if_pos (show loF sh=0 by omega)]
theorem foldl_one:∀ (l:List Int) (a:Int),1≤a→(∀ x∈l,1≤x)→1≤l.foldl min a
 | [],a,ha,_=>by simpa using ha
 | y :: l,a,ha,hl=>by
  rw [List.foldl_cons];exact foldl_one l _ (by have:=hl y (by simp);omega) (fun x hx=>hl x (by simp [hx]))
theorem prodF_one:∀ (l:List Int) (s n:Int),1≤s→(∀ x∈l,1≤x)→prodF l s=some n→1≤n
 | [],s,n,h1,_,h=>by rw [prodF] at h;cases h;exact h1
 | x :: l,s,n,h1,hl,h=>by
  rw [prodF] at h
  split at h
  · cases h
  · have h2:=hl x (by simp)
    exact prodF_one l _ n (by have:=Int.mul_le_mul h1 h2 (by omega) (by omega);omega) (fun y hy=>hl y (by simp [hy])) h
theorem zero_of_size {sh:List Int} (h2:(sizeF sh).2=0) (h:(sizeF sh).1=0):sh.contains 0=true:=by
 by_cases hm:(0:Int)∈sh
 · simpa using hm
 · exfalso
   have hlo:=(foldl_lo sh 1).2;unfold sizeF at h2 h;by_cases c1:8<sh.length
   · rw [if_pos c1] at h2;simp at h2
   · rw [if_neg c1] at h2 h
     by_cases c2:loF sh<0
     · rw [if_pos c2] at h2;simp at h2
     · rw [if_neg c2] at h2 h
       by_cases c3:4096<hiF sh
       · rw [if_pos c3] at h2;simp at h2
       · rw [if_neg c3] at h2 h
         have h1:∀ x∈sh,1≤x:=fun x hx=>by
          have:=hlo x hx;have h0:loF sh≤x:=this;have:x≠0:=fun e=>hm (e ▸ hx);omega
         have hl1:1≤loF sh:=foldl_one sh 1 (by omega) h1;rw [if_neg (show ¬ loF sh=0 by omega)] at h2 h
         cases hp:prodF sh 1 with
         | none=>rw [hp] at h2;simp at h2
         | some n=>
          rw [hp] at h;have:=prodF_one sh 1 n (by omega) h1 hp;simp only at h;omega
theorem thruM_ns {m:Mo} {L:Nat} {t:Tr} (h:(thruM m (L+1) t).1=0):(thruM m (L+1) t).2.ns=t.ns:=by
 rw [thruM] at h ⊢;by_cases h0:t.ns.contains 0=true
 · rw [if_pos h0];rfl
 · rw [if_neg h0] at h ⊢
   dsimp only at h ⊢;by_cases hs:(stM (fun i=>itemM (thruM m L) m (t.kids.getD i tr0)) t.kids.length).1=0
   · rw [if_pos hs];rfl
   · rw [if_neg hs] at h;exact absurd h hs
theorem toldM_er' (mk:Tr→Tr) (r:Int×Tr):(toldM mk r).1=r.1:=by
 unfold toldM;by_cases h:r.1=0
 · rw [if_pos h,h]
 · rw [if_neg h]
theorem wholeT_zero:wholeT 0=numT false [] [1]:=rfl
theorem whole0_num:NumOK (wholeT 0):=by
 rw [wholeT_zero];exact ⟨rfl,⟨by show ([]:List Int).length≤32;simp,by show ([1]:List Int).length≤32;simp,can_nil,can_one,by show ¬ (false=true∧_);simp,by show 0<([1]:List Int).length;simp,by show gI (val []) (val [1])=1;rw [one_val];exact gI_one_right _⟩,rfl,rfl⟩
theorem boxT_meas {L:Nat} {a:Tr} {q:Int×Int} (hs:simpB a=false) (h:measF L a=some q):measI (measF L) (boxT a)=some q:=by
 unfold measI;have e1:(boxT a).k=3:=rfl;have e2:(boxT a).kids.getD 0 tr0=a:=rfl;rw [if_neg (by rw [e1];decide),if_neg (by rw [e1];decide),if_pos e1,if_pos ⟨rfl,rfl,rfl,by rw [e2];exact hs⟩,e2];exact h
theorem simpB_eq {a b:Tr} (h1:a.ns=b.ns) (h2:a.kids.length=b.kids.length) (h3:∀ i,i<b.kids.length→((a.kids.getD i tr0).k=1∨(a.kids.getD i tr0).k=2↔(b.kids.getD i tr0).k=1∨(b.kids.getD i tr0).k=2)):simpB a=simpB b:=by
 unfold simpB;rw [h1,h2];by_cases hk:b.kids.length=1
 · have:=h3 0 (by omega)
   congr 1
   rw [← Bool.decide_or,← Bool.decide_or,decide_eq_decide];exact this
 · rw [decide_eq_false hk];simp
/-- What comes of a right array, where no error comes, is right, and no greater. -/
theorem thruM_right {m:Mo} (hm:MoR m):∀ (L:Nat) (t:Tr) (p:Int×Int),measF L t=some p→(thruM m L t).1=0→(∃ p',measF L (thruM m L t).2=some p'∧p'.2≤p.2)∧(simpB (thruM m L t).2=true→simpB t=true)
 | 0,t,p,h,_=>by rw [measF] at h;cases h
 | L+1,t,p,h,h0=>by
  have hp1:=measF_pos _ _ _ h;obtain ⟨LA,eA,hl8,hs2,hkl,hk4,okA⟩:=measF_some (show (measF (L+1) t).isSome=true by rw [h];rfl);obtain rfl:LA=L:=by omega
  have hc:(sizeF t.ns).2=0∧(t.kids.length:Int)=max (sizeF t.ns).1 1:=⟨hs2,hkl⟩;rw [thruM] at h0 ⊢;by_cases hz:t.ns.contains 0=true
  · rw [if_pos hz]
    have hsz:=size_of_zero hs2 hz;have e1:(arrT t.ns [wholeT 0]).ns=t.ns:=rfl;have e2:(arrT t.ns [wholeT 0]).kids=[wholeT 0]:=rfl;refine ⟨?_,fun hb => ?_⟩
    · refine ⟨(1,1),?_,hp1⟩
      have hb:simpB (arrT t.ns [wholeT 0])=false:=by
       unfold simpB;rw [e1];have:t.ns.length≠0:=fun e=>by rw [List.eq_nil_of_length_eq_zero e] at hz;simp at hz
       rw [decide_eq_false this];simp
      rw [measF,if_pos ⟨by rw [e1];exact hs2,by rw [e1,e2,hsz];rfl⟩,e2,measL,measI_num whole0_num.k ⟨whole0_num.r,whole0_num.c,whole0_num.z⟩];show (match measL (measI (measF LA)) [] (max 1 (1+0),1+0) with
       | none=>none
       | some p=>some (if simpB (arrT t.ns [wholeT 0])=true then 0 else p.1,p.2))=some ((1:Int),(1:Int))
      rw [measL,hb];rfl
    · exfalso
      unfold simpB at hb;rw [e1] at hb;have:t.ns.length≠0:=fun e=>by rw [List.eq_nil_of_length_eq_zero e] at hz;simp at hz
      rw [decide_eq_false this] at hb;simp at hb
  · rw [if_neg hz] at h0 ⊢
    dsimp only at h0 ⊢;by_cases hs:(stM (fun i=>itemM (thruM m LA) m (t.kids.getD i tr0)) t.kids.length).1=0
    · rw [if_pos hs] at h0 ⊢
      dsimp only;have hat:=stM_at t.kids.length hs;have hln:=stM_len t.kids.length hs;obtain ⟨s,hsd⟩:∃ s,(stM (fun i=>itemM (thruM m LA) m (t.kids.getD i tr0)) t.kids.length).2=s:=⟨_,rfl⟩;rw [hsd] at hat hln ⊢;have hI:∀ i,i<t.kids.length→(∀ q,measI (measF LA) (t.kids.getD i tr0)=some q→∃ q',measI (measF LA) (s.getD i tr0)=some q'∧q'.2≤q.2)∧(((s.getD i tr0).k=1∨(s.getD i tr0).k=2)↔((t.kids.getD i tr0).k=1∨(t.kids.getD i tr0).k=2)):=by
       intro i hi;obtain ⟨g0,g1⟩:=hat i hi;have hok:=okA _ (getD_memI hi);obtain ⟨x,hx⟩:∃ x,t.kids.getD i tr0=x:=⟨_,rfl⟩;rw [hx] at g0 g1 hok ⊢;rw [g1];clear g1 hx;unfold itemM at g0 ⊢;rcases measI_cases hok with ⟨hk,hr,hcx,hzx⟩ | ⟨hk,_⟩ | ⟨hk,_,hcx,h1,hsi,hM⟩
       · rw [if_neg (by omega),if_neg (by omega)] at g0 ⊢
         rw [toldM_er'] at g0;have hn:=hm x ⟨hk,hr,hcx,hzx⟩ g0;unfold toldM;rw [if_pos g0];refine ⟨fun q hq => ?_,?_⟩
         · rw [measI_num hk ⟨hr,hcx,hzx⟩] at hq
           cases hq
           exact ⟨(0,0),measI_num hn.k ⟨hn.r,hn.c,hn.z⟩,Int.le_refl _⟩
         · have e:(id (m.op x).2:Tr).k=1:=hn.k
           dsimp only;rw [e,hk]
       · rw [if_pos hk] at g0
         cases g0
       · rw [if_neg (by omega),if_pos hk] at g0 ⊢
         rw [toldM_er'] at g0
         cases hq0:measF LA (x.kids.getD 0 tr0) with
         | none=>rw [hq0] at hM;cases hM
         | some q0=>
          obtain ⟨⟨p',hp',hle⟩,hsb⟩:=thruM_right hm LA _ q0 hq0 g0;have hsb':simpB (thruM m LA (x.kids.getD 0 tr0)).2=false:=by
           cases hb:simpB (thruM m LA (x.kids.getD 0 tr0)).2 with
           | false=>rfl
           | true=>rw [hsb hb] at hsi;cases hsi
          unfold toldM;rw [if_pos g0];refine ⟨fun q hq => ?_,?_⟩
          · have e:measI (measF LA) x=some q0:=by
             unfold measI at hq ⊢;rw [if_neg (by omega),if_neg (by omega),if_pos hk] at hq ⊢
             split at hq
             · rename_i hcc;rw [if_pos hcc];exact hq0
             · cases hq
            rw [e] at hq
            cases hq
            exact ⟨p',boxT_meas hsb' hp',hle⟩
          · have e:(boxT (thruM m LA (x.kids.getD 0 tr0)).2).k=3:=rfl
            dsimp only;rw [e,hk]
      have e1:(arrT t.ns s).ns=t.ns:=rfl;have e2:(arrT t.ns s).kids=s:=rfl;have hsp:simpB (arrT t.ns s)=simpB t:=simpB_eq e1 (by rw [e2,hln]) (fun i hi=>by rw [e2];exact (hI i hi).2);refine ⟨?_,fun hb=>by rw [← hsp];exact hb⟩;rw [measF,if_pos hc] at h
      cases hml:measL (measI (measF LA)) t.kids (1,(t.kids.length:Int)) with
      | none=>rw [hml] at h;cases h
      | some q=>
       rw [hml] at h;dsimp only at h
       cases h
       obtain ⟨p',hp',hle⟩:=measL_le t.kids s (1,(t.kids.length:Int)) (1,(s.length:Int)) q hln.symm (fun i hi=>(hI i hi).1) (by show (s.length:Int)≤t.kids.length;omega) hml;refine ⟨(if simpB (arrT t.ns s)=true then 0 else p'.1,p'.2),?_,hle⟩;rw [measF,if_pos ⟨by rw [e1];exact hs2,by rw [e1,e2,hln];exact hkl⟩,e2,hp']
    · rw [if_neg hs] at h0;exact absurd h0 hs
/-- Two items that fit: two numbers of which G is so, or a box and what fits its array. -/
def FitI (F G:Tr→Tr→Prop) (x y:Tr):Prop:=(x.k=1∧y.k=1∧G x y)∨(x.k=3∧F (x.kids.getD 0 tr0) (openS y))
/-- Two arrays that fit, so many levels deep: the shape of the first comes. -/
def Fit (G:Tr→Tr→Prop):Nat→Tr→Tr→Prop
 | 0,_,_=>False
 | L+1,a,b=>togS a.ns a.kids.length b.ns b.kids.length=(0,a.ns)∧(a.ns.contains 0=false→∀ i,i<a.kids.length→FitI (Fit G L) G (a.kids.getD i tr0) (b.kids.getD (i % b.kids.length) tr0))
/-- How many cells the first items have. -/
def sumC (I:Tr→Option (Int×Int)) (l:List Tr):Nat→Int
 | 0=>0
 | i+1=>sumC I l i+((I (l.getD i tr0)).getD (0,0)).2
theorem sumC_cons {I:Tr→Option (Int×Int)} {t:Tr} {r:List Tr}:∀ i,sumC I (t :: r) (i+1)=((I t).getD (0,0)).2+sumC I r i
 | 0=>by simp [sumC]
 | i+1=>by
  rw [sumC,sumC_cons i,sumC];simp only [List.getD_cons_succ];omega
theorem measL_sum {I:Tr→Option (Int×Int)}:∀ (l:List Tr) (w p:Int×Int),measL I l w=some p→p.2=w.2+sumC I l l.length
 | [],w,p,h=>by rw [measL] at h;cases h;simp [sumC]
 | t :: r,w,p,h=>by
  rw [measL] at h
  cases hq:I t with
  | none=>rw [hq] at h;cases h
  | some q=>
   rw [hq] at h;dsimp only at h;by_cases hb:16384<w.2+q.2
   · rw [if_pos hb] at h;cases h
   · rw [if_neg hb] at h
     have h1:=measL_sum r _ p h;rw [List.length_cons,sumC_cons,hq];simp only [Option.getD_some] at h1 ⊢;omega
theorem measL_hi {I:Tr→Option (Int×Int)}:∀ (l:List Tr) (w p:Int×Int),w.2≤16384→measL I l w=some p→p.2≤16384
 | [],w,p,hw,h=>by rw [measL] at h;cases h;exact hw
 | t :: r,w,p,hw,h=>by
  rw [measL] at h
  cases hq:I t with
  | none=>rw [hq] at h;cases h
  | some q=>
   rw [hq] at h;dsimp only at h;by_cases hb:16384<w.2+q.2
   · rw [if_pos hb] at h;cases h
   · rw [if_neg hb] at h
     exact measL_hi r _ p (by show w.2+q.2≤16384;omega) h
/-- What the pairs of numbers tell is what the function of one tells. -/
structure FitOK (G:Tr→Tr→Prop) (d:Dy) (K:Nat) (m:Mo):Prop where
 one:∀ x,NumOK x→(m.op x).1=0
 two:∀ x y c,0<c→NumOK x→G x y→(numS d K c x y).1=0∧(c≤K→(numS d K c x y).2=(m.op x).2)
theorem thruS_fit {G:Tr→Tr→Prop} {d:Dy} {K:Nat} {m:Mo} (hG:FitOK G d K m):∀ (L c:Nat) (a b:Tr) (p:Int×Int),measF L a=some p→p.2≤16384→Fit G L a b →
    (thruM m L a).1=0∧∃ q:Nat,(q:Int)≤p.2∧(thruS d K L c a b a.ns).1=0∧(thruS d K L c a b a.ns).2.1=c+q∧(c+q≤K→(thruS d K L c a b a.ns).2.2=(thruM m L a).2)
 | 0,c,a,b,p,h,_,_=>by rw [measF] at h;cases h
 | L+1,c,a,b,p,h,hp,hF=>by
  have hp1:=measF_pos _ _ _ h;obtain ⟨LA,eA,hl8,hs2,hkl,hk4,okA⟩:=measF_some (show (measF (L+1) a).isSome=true by rw [h];rfl);obtain rfl:LA=L:=by omega
  have hn0:=size_nonneg a.ns;rw [thruM,thruS];by_cases hz:a.ns.contains 0=true
  · have hsz:=size_of_zero hs2 hz
    rw [if_pos hz,if_pos (by rw [hsz];rfl)];exact ⟨rfl,1,hp1,rfl,rfl,fun _=>rfl⟩
  · have hsz:¬ (sizeF a.ns).1=0:=fun e=>hz (zero_of_size hs2 e)
    obtain ⟨n,hn⟩:∃ n,a.kids.length=n:=⟨_,rfl⟩;have hnn:(sizeF a.ns).1.toNat=n:=by omega
    rw [if_neg hz,if_neg (show ¬ (sizeF a.ns).1.toNat=0 by omega),hnn];dsimp only;have hFI:=hF.2 (by simpa using hz);rw [hn] at hFI;rw [measF,if_pos ⟨hs2,hkl⟩] at h;obtain ⟨q0,hml,hq0⟩:∃ q0,measL (measI (measF LA)) a.kids (1,(a.kids.length:Int))=some q0∧q0.2=p.2:=by
     cases hml:measL (measI (measF LA)) a.kids (1,(a.kids.length:Int)) with
     | none=>rw [hml] at h;cases h
     | some q=>rw [hml] at h;dsimp only at h;cases h;exact ⟨q,rfl,rfl⟩
    have hsum:=measL_sum _ _ _ hml;rw [hq0,hn] at hsum;simp only at hsum;have hge:∀ x q,measI (measF LA) x=some q→0≤q.2:=fun x q hq=>by
     unfold measI at hq
     split at hq
     · split at hq
       · cases hq;exact Int.le_refl _
       · cases hq
     · split at hq
       · split at hq
         · cases hq;exact Int.le_refl _
         · cases hq
       · split at hq
         · split at hq
           · have:=measF_pos LA _ q hq;omega
           · cases hq
         · cases hq
    have hitem:∀ i,i<n→∀ c',0<c'→(itemM (thruM m LA) m (a.kids.getD i tr0)).1=0∧∃ q:Nat,(q:Int)≤((measI (measF LA) (a.kids.getD i tr0)).getD (0,0)).2∧(itemS (thruS d K LA) d K c' (a.kids.getD i tr0) (b.kids.getD (i % b.kids.length) tr0)).1=0∧(itemS (thruS d K LA) d K c' (a.kids.getD i tr0) (b.kids.getD (i % b.kids.length) tr0)).2.1=c'+q∧(c'+q≤K→(itemS (thruS d K LA) d K c' (a.kids.getD i tr0) (b.kids.getD (i % b.kids.length) tr0)).2.2=(itemM (thruM m LA) m (a.kids.getD i tr0)).2):=by
     intro i hi c' hc0;have hok:=okA _ (getD_memI (show i<a.kids.length by omega));have hf:=hFI i hi;obtain ⟨x,hx⟩:∃ x,a.kids.getD i tr0=x:=⟨_,rfl⟩;obtain ⟨y,hy⟩:∃ y,b.kids.getD (i % b.kids.length) tr0=y:=⟨_,rfl⟩;rw [hx] at hok hf ⊢;rw [hy] at hf ⊢;clear hx hy;rcases hf with ⟨hk,hky,hg⟩ | ⟨hk,hf⟩
     · have hN:=num_right hok hk
       obtain ⟨t1,t2⟩:=hG.two x y c' hc0 hN hg;have o1:=hG.one x hN;have eM:itemM (thruM m LA) m x=(0,(m.op x).2):=by
        unfold itemM toldM;rw [if_neg (by omega),if_neg (by omega),if_pos o1];rfl
       have eS:itemS (thruS d K LA) d K c' x y=(0,c',(numS d K c' x y).2):=by
        rw [itemS_num hk hky];unfold numItem;rw [if_pos t1]
       rw [eM,eS];refine ⟨rfl,0,?_,rfl,rfl,fun h=>t2 (by simpa using h)⟩;rw [measI_num hk ⟨hN.r,hN.c,hN.z⟩];exact Int.le_refl _
     · rcases measI_cases hok with ⟨e,_⟩ | ⟨e,_⟩ | ⟨_,hnb,hcx,h1,hsi,hM⟩
       · omega
       · omega
       cases hq1:measF LA (x.kids.getD 0 tr0) with
       | none=>rw [hq1] at hM;cases hM
       | some q1=>
        have hmx:measI (measF LA) x=some q1:=by
         unfold measI;rw [if_neg (by omega),if_neg (by omega),if_pos hk,if_pos ⟨hnb,hcx,h1,hsi⟩,hq1]
        have hle:q1.2≤16384:=by
         have:(measI (measF LA) x).getD (0,0)=q1:=by rw [hmx];rfl
         obtain ⟨LB,rfl,_,hB2,hBk,hB4,_⟩:=measF_some hM;rw [measF,if_pos ⟨hB2,hBk⟩] at hq1
         cases hm2:measL (measI (measF LB)) (x.kids.getD 0 tr0).kids (1,((x.kids.getD 0 tr0).kids.length:Int)) with
         | none=>rw [hm2] at hq1;cases hq1
         | some q2=>
          rw [hm2] at hq1;dsimp only at hq1
          cases hq1
          have hz2:q2.2≤16384:=measL_hi _ (1,((x.kids.getD 0 tr0).kids.length:Int)) _ (by show ((x.kids.getD 0 tr0).kids.length:Int)≤16384;omega) hm2;exact hz2
        have hox:openS x=x.kids.getD 0 tr0:=by unfold openS;rw [if_pos hk]
        obtain ⟨i1,q,i2,i3,i4,i5⟩:=thruS_fit hG LA c' (x.kids.getD 0 tr0) (openS y) q1 hq1 hle hf;have htog:togS (openS x).ns (openS x).kids.length (openS y).ns (openS y).kids.length=(0,(x.kids.getD 0 tr0).ns):=by
         cases LA with
         | zero=>exact hf.elim
         | succ LB=>rw [hox];exact hf.1
        have eM:itemM (thruM m LA) m x=(0,boxT (thruM m LA (x.kids.getD 0 tr0)).2):=by
         unfold itemM toldM;rw [if_neg (by omega),if_pos hk,if_pos i1]
        have eS:itemS (thruS d K LA) d K c' x y=(0,(thruS d K LA c' (x.kids.getD 0 tr0) (openS y) (x.kids.getD 0 tr0).ns).2.1,boxT (thruS d K LA c' (x.kids.getD 0 tr0) (openS y) (x.kids.getD 0 tr0).ns).2.2):=by
         unfold itemS;rw [if_pos (Or.inl hk),htog,if_pos rfl,hox];dsimp only;rw [if_pos i3]
        rw [eM,eS,hmx];exact ⟨rfl,q,i2,rfl,i4,fun h=>congrArg boxT (i5 h)⟩
    have hpre:∀ i,i≤n→(stM (fun i=>itemM (thruM m LA) m (a.kids.getD i tr0)) i).1=0∧(stS (fun i c=>itemS (thruS d K LA) d K c (a.kids.getD (i % a.kids.length) tr0) (b.kids.getD (i % b.kids.length) tr0)) K c i).1=0∧∃ Q:Nat,(Q:Int)≤sumC (measI (measF LA)) a.kids i∧(stS (fun i c=>itemS (thruS d K LA) d K c (a.kids.getD (i % a.kids.length) tr0) (b.kids.getD (i % b.kids.length) tr0)) K c i).2.1=c+i+Q∧(c+i+Q≤K→(stS (fun i c=>itemS (thruS d K LA) d K c (a.kids.getD (i % a.kids.length) tr0) (b.kids.getD (i % b.kids.length) tr0)) K c i).2.2=(stM (fun i=>itemM (thruM m LA) m (a.kids.getD i tr0)) i).2):=by
     intro i
     induction i with
     | zero=>exact fun _=>⟨rfl,rfl,0,Int.le_refl _,rfl,fun _=>rfl⟩
     | succ i ih=>
      intro hi;obtain ⟨m0,s0,Q,hQ,hcn,hli⟩:=ih (by omega);obtain ⟨g0,q,hq,r0,rc,ri⟩:=hitem i (by omega) ((stS (fun i c=>itemS (thruS d K LA) d K c (a.kids.getD (i % a.kids.length) tr0) (b.kids.getD (i % b.kids.length) tr0)) K c i).2.1+1) (by omega);have hmod:i % a.kids.length=i:=Nat.mod_eq_of_lt (by omega);rw [stM_ok m0 g0,stS_ok s0 (by rw [hmod];exact r0)]
      (try dsimp only)
      rw [hmod];refine ⟨rfl,rfl,Q+q,?_,?_,?_⟩
      · rw [sumC];push_cast;omega
      · rw [rc,hcn];omega
      · intro hK
        rw [rc,hcn] at *;rw [if_pos (by omega),hli (by omega),ri (by omega)]
    obtain ⟨m0,s0,Q,hQ,hcn,hli⟩:=hpre n (Nat.le_refl _);rw [hn];rw [hn] at s0 hcn hli;rw [if_pos m0,if_pos s0,if_neg (by omega)];exact ⟨rfl,n+Q,by push_cast;omega,rfl,by rw [hcn];omega,fun hK=>by dsimp only;rw [hli (by omega)]⟩
theorem dyadS_fit {G:Tr→Tr→Prop} {d:Dy} {m:Mo} {t s:Tr} (h0:FitOK G (lookD d) 0 m) (h1:FitOK G d 16384 m) (ht:(measF 16 t).isSome=true) (hs:(measF 16 s).isSome=true) (hF:Fit G 16 t s):dyadS d t s=(0,(thruM m 16 t).2):=by
 cases hp:measF 16 t with
 | none=>rw [hp] at ht;cases ht
 | some p=>
  have hle:p.2≤16384:=by
   obtain ⟨LB,e,_,hB2,hBk,hB4,_⟩:=measF_some ht;obtain rfl:LB=15:=by omega
   rw [measF,if_pos ⟨hB2,hBk⟩] at hp
   cases hm2:measL (measI (measF 15)) t.kids (1,(t.kids.length:Int)) with
   | none=>rw [hm2] at hp;cases hp
   | some q2=>
    rw [hm2] at hp;dsimp only at hp
    cases hp
    have hz2:q2.2≤16384:=measL_hi _ (1,(t.kids.length:Int)) _ (by show (t.kids.length:Int)≤16384;omega) hm2;exact hz2
  obtain ⟨_,q,hq,e0,_,_⟩:=thruS_fit h0 16 0 t s p hp hle hF;obtain ⟨_,q',hq',e1,c1,l1⟩:=thruS_fit h1 16 0 t s p hp hle hF;have hT:togS t.ns t.kids.length s.ns s.kids.length=(0,t.ns):=hF.1;unfold dyadS;rw [if_pos ⟨ht,hs⟩,hT,if_pos rfl];unfold wholeS;dsimp only;rw [if_neg (by rw [e0];decide),e1,l1 (by omega)]
theorem ratOp_same {b:Bool} {ns ds:List Int} (h:RightP b ns ds):ratOp (sg b (val ns)) (val ds)=(0,numT b ns ds):=
 ratOp_is (den_pos h) (Or.inr (Or.inr ⟨trivial,rfl,h,rfl⟩))
theorem numT_num {b:Bool} {ns ds:List Int} (h:RightP b ns ds):NumOK (numT b ns ds):=⟨rfl,h,rfl,rfl⟩
theorem moR_same:MoR sameM:=fun _ hx _=>numT_num hx.r
/-- Where there are no numbers that have no answer, what one pair tells settles both rounds. -/
theorem fitOK_of {G:Tr→Tr→Prop} {d:Dy} {m:Mo} (hno:∀ x y,d.no x y=false) (ho:∀ x,NumOK x→(m.op x).1=0) (hop:∀ x y,NumOK x→G x y→d.op x y=m.op x):FitOK G (lookD d) 0 m∧FitOK G d 16384 m:=by
 refine ⟨⟨ho,fun x y c hc hx hg=>⟨?_,fun h=>by omega⟩⟩,⟨ho,fun x y c hc hx hg=>⟨?_,fun h => ?_⟩⟩⟩
 · unfold numS
   by_cases h:0<c∧smallS x y=true
   · rw [if_pos h,show (lookD d).no x y=false from hno x y];rfl
   · rw [if_neg h]
     show (unS d x y).1=0;unfold unS;rw [hno x y];rfl
 · unfold numS
   by_cases h:16384<c∧smallS x y=true
   · rw [if_pos h,hno x y];rfl
   · rw [if_neg h,hop x y hx hg];exact ho x hx
 · unfold numS
   rw [if_neg (by omega),hop x y hx hg]
/-- What thruM tells, where no error comes, item by item. -/
theorem thruM_items {m:Mo} {L:Nat} {t:Tr} (hz:t.ns.contains 0=false) (h:(thruM m (L+1) t).1=0):(thruM m (L+1) t).2.kids.length=t.kids.length∧∀ i,i<t.kids.length→(itemM (thruM m L) m (t.kids.getD i tr0)).1=0∧(thruM m (L+1) t).2.kids.getD i tr0=(itemM (thruM m L) m (t.kids.getD i tr0)).2:=by
 rw [thruM] at h ⊢;rw [if_neg (by rw [hz];decide)] at h ⊢;dsimp only at h ⊢;by_cases hs:(stM (fun i=>itemM (thruM m L) m (t.kids.getD i tr0)) t.kids.length).1=0
 · rw [if_pos hs]
   exact ⟨stM_len _ hs,fun i hi=>stM_at _ hs i hi⟩
 · rw [if_neg hs] at h;exact absurd h hs
theorem itemM_ok {m:Mo} {L:Nat} {x:Tr} (hok:(measI (measF L) x).isSome=true) (h:(itemM (thruM m L) m x).1=0):(NumOK x∧(m.op x).1=0∧(itemM (thruM m L) m x).2=(m.op x).2)∨(x.k=3∧(measF L (x.kids.getD 0 tr0)).isSome=true∧(thruM m L (x.kids.getD 0 tr0)).1=0∧(itemM (thruM m L) m x).2=boxT (thruM m L (x.kids.getD 0 tr0)).2):=by
 unfold itemM at h ⊢;rcases measI_cases hok with ⟨hk,hr,hc,hz⟩ | ⟨hk,_⟩ | ⟨hk,_,_,_,_,hM⟩
 · rw [if_neg (by omega),if_neg (by omega)] at h ⊢
   rw [toldM_er'] at h;refine Or.inl ⟨⟨hk,hr,hc,hz⟩,h,?_⟩;unfold toldM;rw [if_pos h];rfl
 · rw [if_pos hk] at h;cases h
 · rw [if_neg (by omega),if_pos hk] at h ⊢
   rw [toldM_er'] at h;refine Or.inr ⟨hk,hM,h,?_⟩;unfold toldM;rw [if_pos h]
theorem tog_scalar (sa:List Int) (na:Nat):togS sa na [] 1=(0,sa):=by
 unfold togS;by_cases h:sa=[]
 · rw [if_pos h]
 · rw [if_neg h,if_neg (by
    rintro ⟨_,h2 | h2⟩
    · revert h2;decide
    · simp at h2),if_pos (by decide)]
theorem fit_scalar {m:Mo} {k:Int}:∀ (L:Nat) (t:Tr),(measF L t).isSome=true→(thruM m L t).1=0→Fit (fun _ y=>y=wholeT k) L t (arrT [] [wholeT k])
 | 0,t,h,_=>by rw [measF] at h;cases h
 | L+1,t,h,h0=>by
  obtain ⟨LA,eA,_,_,_,_,okA⟩:=measF_some h;obtain rfl:LA=L:=by omega
  refine ⟨tog_scalar _ _,fun hz i hi => ?_⟩;obtain ⟨hl,hit⟩:=thruM_items hz h0;obtain ⟨g0,g1⟩:=hit i hi;have hok:=okA _ (getD_memI hi);have hy:(arrT [] [wholeT k]).kids.getD (i % (arrT [] [wholeT k]).kids.length) tr0=wholeT k:=by
   show [wholeT k].getD (i % 1) tr0=wholeT k;rw [Nat.mod_one];rfl
  rw [hy];rcases itemM_ok hok g0 with ⟨hN,_,e⟩ | ⟨hk,hM,hT,e⟩
  · exact Or.inl ⟨hN.k,rfl,rfl⟩
  · refine Or.inr ⟨hk,?_⟩
    have ho:openS (wholeT k)=arrT [] [wholeT k]:=rfl;rw [ho];exact fit_scalar LA _ hM hT
theorem scalar_right:(measF 16 (arrT [] [wholeT 0])).isSome=true:=by
 rw [measF,if_pos ⟨by decide,by decide⟩];have e:(arrT [] [wholeT 0]).kids=[wholeT 0]:=rfl;rw [e,measL,measI_num whole0_num.k ⟨whole0_num.r,whole0_num.c,whole0_num.z⟩];show (match measL (measI (measF 15)) [] (max 1 (1+0),1+0) with
  | none=>none
  | some p=>some (if simpB (arrT [] [wholeT 0])=true then 0 else p.1,p.2)).isSome=true
 rw [measL];rfl
end Go.Proofs.YtmijanocljmaeaaGreat
