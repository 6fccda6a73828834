/- What a function of two numbers makes of two arrays, as it is meant: errors, cells, items. -/
import Derived.Test.YtmijanocljmaeaaGreatK12
import Derived.Test.YtmijanocljmaeaaGreatKS4
import Derived.Test.YtmijanocljmaeaaGreatM3
import Derived.Test.YtmijanocljmaeaaGreatK11
import Derived.Test.YtmijanocljmaeaaGreatKS1
import Derived.Test.YtmijanocljmaeaaGreatKS3
set_option maxRecDepth 100000
set_option maxHeartbeats 16000000
set_option linter.unusedVariables false
set_option linter.unusedSimpArgs false
namespace Go.Proofs.YtmijanocljmaeaaGreat
open Go.RowKit
/-- The glyph, which numbers it has no answer for, and what it tells of two: an error, and the number. -/
structure Dy where
 gl:Int
 no:Tr→Tr→Bool
 op:Tr→Tr→Int×Tr
def oneS (sh:List Int) (n:Nat):Bool:=decide (n=1) && !(sh.contains 0)
/-- The shape of what comes of two. -/
def togS (sa:List Int) (na:Nat) (sb:List Int) (nb:Nat):Int×List Int:=
 if sa=sb then (0,sa)
 else if oneS sa na=true∧(oneS sb nb=false∨sa.length<sb.length) then (0,sb)
 else if oneS sb nb=true then (0,sa)
 else if sa.length≠sb.length then (4,[]) else (5,[])
def openS (t:Tr):Tr:=if t.k=3 then t.kids.getD 0 tr0 else arrT [] [t]
def zeroN:Tr:=numT false [] []
def smallS (x y:Tr):Bool:=decide (x.ns.length+x.ds.length+y.ns.length+y.ds.length<32)
def numS (d:Dy) (K c:Nat) (x y:Tr):Int×Tr:=
 if K<c∧smallS x y=true then (if d.no x y=true then (3,zeroN) else (0,zeroN)) else d.op x y
def alikeS (gl:Int) (x y:Tr):Tr:=wholeT (if (decide (x.k=y.k) && decide (x.c=y.c))==decide (gl=61) then 1 else 0)
/-- One pair of items, where rec tells of two arrays: an error, the cells, the item. -/
def itemS (rec:Nat→Tr→Tr→List Int→Int×Nat×Tr) (d:Dy) (K c:Nat) (x y:Tr):Int×Nat×Tr:=
 if x.k=3∨y.k=3 then
  (if (togS (openS x).ns (openS x).kids.length (openS y).ns (openS y).kids.length).1=0 then
   (let r:=rec c (openS x) (openS y) (togS (openS x).ns (openS x).kids.length (openS y).ns (openS y).kids.length).2
    if r.1=0 then (0,r.2.1,boxT r.2.2) else (r.1,r.2.1,tr0))
  else ((togS (openS x).ns (openS x).kids.length (openS y).ns (openS y).kids.length).1,c,tr0))
 else if x.k=1∧y.k=1 then (let r:=numS d K c x y;if r.1=0 then (0,c,r.2) else (r.1,c,tr0))
 else if d.gl=61∨d.gl=8800 then (0,c,alikeS d.gl x y) else (3,c,tr0)
/-- So many pairs. -/
def stS (it:Nat→Nat→Int×Nat×Tr) (K c0:Nat):Nat→Int×Nat×List Tr
 | 0=>(0,c0,[])
 | i+1=>
  if (stS it K c0 i).1=0 then
   (let r:=it i ((stS it K c0 i).2.1+1)
    if r.1=0 then (0,r.2.1,if r.2.1≤K then (stS it K c0 i).2.2++[r.2.2] else (stS it K c0 i).2.2) else (r.1,r.2.1,[]))
  else stS it K c0 i
/-- Two arrays, so many levels deep. -/
def thruS (d:Dy) (K:Nat):Nat→Nat→Tr→Tr→List Int→Int×Nat×Tr
 | 0,c,_,_,_=>(0,c,tr0)
 | L+1,c,a,b,sh=>
  if (sizeF sh).1.toNat=0 then (0,c+1,arrT sh [wholeT 0])
  else
   (let s:=stS (fun i c=>itemS (thruS d K L) d K c (a.kids.getD (i % a.kids.length) tr0) (b.kids.getD (i % b.kids.length) tr0)) K c (sizeF sh).1.toNat
    if s.1=0 then (if 16384<s.2.1 - c then (8,s.2.1,tr0) else (0,s.2.1,arrT sh s.2.2)) else (s.1,s.2.1,tr0))
theorem stS_err {it:Nat→Nat→Int×Nat×Tr} {K c0 i:Nat} (h:(stS it K c0 i).1≠0):∀ j,stS it K c0 (i+j)=stS it K c0 i
 | 0=>rfl
 | j+1=>by rw [← Nat.add_assoc,stS,stS_err h j,if_neg h]
theorem stS_to {it:Nat→Nat→Int×Nat×Tr} {K c0 i n:Nat} (h:(stS it K c0 i).1≠0) (hi:i≤n):stS it K c0 n=stS it K c0 i:=by
 have:=stS_err h (n - i)
 rwa [Nat.add_sub_cancel' hi] at this
theorem stS_ok {it:Nat→Nat→Int×Nat×Tr} {K c0 i:Nat} (h:(stS it K c0 i).1=0) (hr:(it i ((stS it K c0 i).2.1+1)).1=0) :
    stS it K c0 (i+1)=(0,(it i ((stS it K c0 i).2.1+1)).2.1,if (it i ((stS it K c0 i).2.1+1)).2.1≤K then (stS it K c0 i).2.2++[(it i ((stS it K c0 i).2.1+1)).2.2] else (stS it K c0 i).2.2):=by
 rw [stS,if_pos h];exact if_pos hr
theorem stS_no {it:Nat→Nat→Int×Nat×Tr} {K c0 i:Nat} (h:(stS it K c0 i).1=0) (hr:(it i ((stS it K c0 i).2.1+1)).1≠0) :
    stS it K c0 (i+1)=((it i ((stS it K c0 i).2.1+1)).1,(it i ((stS it K c0 i).2.1+1)).2.1,[]):=by
 rw [stS,if_pos h];exact if_neg hr
theorem stS_congr {it jt:Nat→Nat→Int×Nat×Tr} {K c0:Nat}:∀ n,(∀ i c,i<n→it i c=jt i c)→stS it K c0 n=stS jt K c0 n
 | 0,_=>rfl
 | n+1,h=>by
  rw [stS,stS,stS_congr n (fun i c hi=>h i c (by omega)),h n _ (by omega)]
/-- How many cells are counted: where no error came, what is counted is at most 16384 more. -/
theorem stS_cells {it:Nat→Nat→Int×Nat×Tr} {K c0 B:Nat} (h0:∀ i c,(it i c).1=0→c≤(it i c).2.1∧(it i c).2.1≤c+16384) (h1:∀ i c,c≤(it i c).2.1∧(it i c).2.1≤c+B):∀ n,c0≤(stS it K c0 n).2.1∧((stS it K c0 n).1=0→(stS it K c0 n).2.1≤c0+n*16385)∧(stS it K c0 n).2.1≤c0+n*16385+B
 | 0=>by
  have e:(stS it K c0 0).2.1=c0:=rfl;refine ⟨?_,fun _ => ?_,?_⟩ <;> omega
 | n+1=>by
  obtain ⟨i0,i1,i2⟩:=stS_cells (K:=K) (c0:=c0) h0 h1 n;by_cases e:(stS it K c0 n).1=0
  · replace i1:=i1 e
    by_cases hr:(it n ((stS it K c0 n).2.1+1)).1=0
    · rw [stS_ok e hr]
      have q:=h0 n _ hr;refine ⟨?_,fun _ => ?_,?_⟩ <;> dsimp only <;> omega
    · rw [stS_no e hr]
      have q:=h1 n ((stS it K c0 n).2.1+1);refine ⟨?_,fun h=>absurd h hr,?_⟩ <;> dsimp only <;> omega
  · rw [stS,if_neg e]
    refine ⟨i0,fun h=>absurd h e,?_⟩;clear i1 h0 h1 i0 e;generalize (stS it K c0 n).2.1=X at *;omega
theorem itemS_cells {rec:Nat→Tr→Tr→List Int→Int×Nat×Tr} {d:Dy} {K B:Nat} (h0:∀ c a b sh,(rec c a b sh).1=0→c≤(rec c a b sh).2.1∧(rec c a b sh).2.1≤c+16384) (h1:∀ c a b sh,c≤(rec c a b sh).2.1∧(rec c a b sh).2.1≤c+B) (c:Nat) (x y:Tr) :
    ((itemS rec d K c x y).1=0→c≤(itemS rec d K c x y).2.1∧(itemS rec d K c x y).2.1≤c+16384)∧c≤(itemS rec d K c x y).2.1∧(itemS rec d K c x y).2.1≤c+B:=by
 unfold itemS
 split
 · split
   · dsimp only
     split
     · rename_i h
       exact ⟨fun _=>h0 _ _ _ _ h,h1 _ _ _ _⟩
     · rename_i h
       exact ⟨fun e=>absurd e h,h1 _ _ _ _⟩
   · rename_i h
     exact ⟨fun e=>absurd e h,Nat.le_refl _,Nat.le_add_right _ _⟩
 · split
   · dsimp only
     split
     · exact ⟨fun _=>⟨Nat.le_refl _,Nat.le_add_right _ _⟩,Nat.le_refl _,Nat.le_add_right _ _⟩
     · exact ⟨fun _=>⟨Nat.le_refl _,Nat.le_add_right _ _⟩,Nat.le_refl _,Nat.le_add_right _ _⟩
   · split
     · exact ⟨fun _=>⟨Nat.le_refl _,Nat.le_add_right _ _⟩,Nat.le_refl _,Nat.le_add_right _ _⟩
     · exact ⟨fun _=>⟨Nat.le_refl _,Nat.le_add_right _ _⟩,Nat.le_refl _,Nat.le_add_right _ _⟩
theorem prodF_hi:∀ (l:List Int) (s n:Int),s≤4096→prodF l s=some n→n≤4096
 | [],s,n,h1,h=>by rw [prodF] at h;cases h;exact h1
 | x :: l,s,n,h1,h=>by
  rw [prodF] at h
  split at h
  · cases h
  · exact prodF_hi l _ n (by omega) h
theorem prodF_lo:∀ (l:List Int) (s n:Int),0≤s→(∀ x∈l,0≤x)→prodF l s=some n→0≤n
 | [],s,n,h1,_,h=>by rw [prodF] at h;cases h;exact h1
 | x :: l,s,n,h1,hl,h=>by
  rw [prodF] at h
  split at h
  · cases h
  · exact prodF_lo l _ n (Int.mul_nonneg h1 (hl x (by simp))) (fun y hy=>hl y (by simp [hy])) h
theorem size_hi {sh:List Int}:(sizeF sh).1.toNat≤4096:=by
 unfold sizeF
 split
 · simp
 · split
   · simp
   · split
     · simp
     · split
       · simp
       · split
         · rename_i n h
           have:=prodF_hi _ _ _ (by omega) h;dsimp only;omega
         · simp
theorem thruS_cells (d:Dy) (K:Nat):∀ (L c:Nat) (a b:Tr) (sh:List Int),((thruS d K L c a b sh).1=0→c≤(thruS d K L c a b sh).2.1∧(thruS d K L c a b sh).2.1≤c+16384)∧c≤(thruS d K L c a b sh).2.1∧(thruS d K L c a b sh).2.1≤c+L*67112961
 | 0,c,a,b,sh=>by
  rw [thruS];refine ⟨fun _=>⟨?_,?_⟩,?_,?_⟩ <;> dsimp only <;> omega
 | L+1,c,a,b,sh=>by
  have hI:∀ i c,_:=fun (i c:Nat)=>itemS_cells (d:=d) (K:=K) (fun c a b sh=>(thruS_cells d K L c a b sh).1) (fun c a b sh=>(thruS_cells d K L c a b sh).2) c (a.kids.getD (i % a.kids.length) tr0) (b.kids.getD (i % b.kids.length) tr0);obtain ⟨q0,q1,q2⟩:=stS_cells (K:=K) (c0:=c) (it:=fun i c=>itemS (thruS d K L) d K c (a.kids.getD (i % a.kids.length) tr0) (b.kids.getD (i % b.kids.length) tr0)) (B:=L*67112961) (fun i c=>(hI i c).1) (fun i c=>(hI i c).2) (sizeF sh).1.toNat;have hs:=size_hi (sh:=sh);have hm:(sizeF sh).1.toNat*16385≤67112960:=by omega
  rw [thruS]
  split
  · refine ⟨fun _=>⟨?_,?_⟩,?_,?_⟩ <;> dsimp only <;> omega
  · dsimp only
    split
    · rename_i e
      replace q1:=q1 e;clear hI e;generalize (stS (fun i c=>itemS (thruS d K L) d K c (a.kids.getD (i % a.kids.length) tr0) (b.kids.getD (i % b.kids.length) tr0)) K c (sizeF sh).1.toNat).2.1=X at *;generalize (sizeF sh).1.toNat=n at *
      split
      · refine ⟨fun h => ?_,?_,?_⟩
        · simp at h
        · exact q0
        · dsimp only;omega
      · refine ⟨fun h=>⟨?_,?_⟩,?_,?_⟩ <;> dsimp only <;> omega
    · rename_i e
      clear hI q1;refine ⟨fun h=>absurd h e,?_⟩;clear e;generalize (stS (fun i c=>itemS (thruS d K L) d K c (a.kids.getD (i % a.kids.length) tr0) (b.kids.getD (i % b.kids.length) tr0)) K c (sizeF sh).1.toNat).2.1=X at *;generalize (sizeF sh).1.toNat=n at *;refine ⟨?_,?_⟩ <;> omega
theorem meas_pos {L:Nat} {t:Tr} (h:(measF L t).isSome=true):0<t.kids.length:=by
 obtain ⟨_,_,_,_,hk,_,_⟩:=measF_some h;omega
/-- A place is told: some, or none. -/
def IxR5 (B:Bool) (e:Ending):Prop:=∃ r:Int,e=.returned (.int .i64 r)∧Hid (decide (0≤r)=B)
section
variable {D:Nat→Prop} {w:World} {a:Option Addr} {c:Nat} {xs:List Int}
theorem index5_any (h:RdN D w (.slice a xs.length c) xs):Calls Tryz.prog 151 #[.slice a xs.length c,.int .i64 0] w fun e w'=>IxR5 (xs.contains 0) e∧w'=w:=by
 have bd:=h.bounds;have HR:Hid (RdN D w (.slice a xs.length c) xs):=h;clear h;go_enter Tryz.func151,Tryz.ntmps151;go_wp2
 go_loopw [8] (fun s wr=>wr=w∧∃ i:Nat,s=.int .i64 i∧i≤xs.length∧Hid (∀ j,j<i→xs.getD j 0≠0)) (fun s _=>xs.length - (intOf s).toNat)
 case atStart=>exact ⟨rfl,0,rfl,Nat.zero_le _,fun j hj=>by omega⟩
 case round=>
  obtain ⟨rfl,i,rfl,hi,HN⟩:=hrel;by_cases hlt:i<xs.length
  · obtain ⟨g,o,rfl,hg,hc⟩:=HR.out.ptr (by omega)
    have hcell:=hc i hlt;obtain ⟨q,hq⟩:∃ q,xs.getD i 0=q:=⟨_,rfl⟩;rw [hq] at hcell;clear hc;by_cases h0:q=0
    · subst h0
      have HQ:Hid (xs.contains 0=true):=by
       unfold Hid;rw [List.contains_iff_mem,← hq,List.getD_eq_getElem?_getD,List.getElem?_eq_getElem hlt];exact List.getElem_mem hlt
      clear hq;go_wp2
      go_ret
      exact ⟨⟨_,rfl,by unfold Hid;rw [HQ.out,decide_eq_true_iff];omega⟩,rfl⟩
    · have hq1:(q==0)=false:=by rw [beq_eq_false_iff_ne];exact h0
      have hq2:((0:Int)==q)=false:=by rw [beq_eq_false_iff_ne];exact fun e=>h0 e.symm
      have HN1:Hid (∀ j,j<i+1→xs.getD j 0≠0):=fun j hj=>by
       by_cases e:j=i
       · subst e;rw [hq];exact h0
       · exact HN.out j (by omega)
      clear hq;go_wp2
      go_roundw
      case rel=>exact ⟨by first | trivial | rfl,i+1,by go_num,by omega,HN1⟩
      case measure=>simp [intOf];omega
  · have HQ:Hid (xs.contains 0=false):=by
     unfold Hid;rw [Bool.eq_false_iff];intro hm;rw [List.contains_iff_mem] at hm;obtain ⟨j,hj,e⟩:=List.getElem_of_mem hm;refine HN.out j (by omega) ?_;rw [List.getD_eq_getElem?_getD,List.getElem?_eq_getElem hj];exact e
    go_wp2
    go_ret
    exact ⟨⟨-1,rfl,by unfold Hid;rw [HQ.out];rfl⟩,rfl⟩
theorem contains5_any (h:RdN D w (.slice a xs.length c) xs):Calls Tryz.prog 116 #[.slice a xs.length c,.int .i64 0] w fun e w'=>e=.returned (.bool (xs.contains 0))∧w'=w:=by
 have C:=index5_any h;clear h;go_enter Tryz.func116,Tryz.ntmps116
 go_wp2_with fail
 refine C.mono ?_;rintro e w' ⟨⟨r,rfl,hr⟩,hw⟩;obtain rfl:=hw.symm;go_wp2
 go_ret
 exact ⟨by rw [← hr.out];rfl,rfl⟩
end
section
variable {D:Nat→Prop} {w:World} {x1 x2 x3 x4:Option Addr} {y1 n2 y2 y3 n4 y4:Nat} {sa sb:List Int}
theorem isEmpty5_any (h:RdN D w (.slice x1 sa.length y1) sa) (hD:∀ g,D g→g<w.heap.size):Calls Tryz.prog 61 #[.agg #[.slice x1 sa.length y1,.slice x2 n2 y2]] w fun e w'=>e=.returned (.bool (sa.contains 0))∧Below w.heap.size w w':=by
 have k0:=below_alloc w (.cells #[.slice x1 sa.length y1,.slice x2 n2 y2] 25);have X:=boxA_new w #[.slice x1 sa.length y1,.slice x2 n2 y2] 25;have z0:=X.cell 0 rfl;have C1:=contains5_any (h.imp (fun _ h=>h) (Agree.of k0 hD));obtain ⟨q,hq⟩:∃ q,sa.contains 0=q:=⟨_,rfl⟩;rw [hq] at C1 ⊢;clear h hD hq;go_enter Tryz.func61,Tryz.ntmps61
 go_wp2_with fail
 refine C1.mono ?_;rintro e w' ⟨rfl,hw⟩;obtain rfl:=hw.symm;go_wp2
 go_ret
 exact ⟨rfl,k0⟩
theorem isOne5_any (h:RdN D w (.slice x1 sa.length y1) sa) (hD:∀ g,D g→g<w.heap.size):Calls Tryz.prog 39 #[.agg #[.slice x1 sa.length y1,.slice x2 n2 y2]] w fun e w'=>e=.returned (.bool (oneS sa n2))∧Below w.heap.size w w':=by
 by_cases hn:n2=1
 · subst hn
   have k0:=below_alloc w (.cells #[.slice x1 sa.length y1,.slice x2 1 y2] 25);have X:=boxA_new w #[.slice x1 sa.length y1,.slice x2 1 y2] 25;have z0:=X.cell 0 rfl;have z1:=X.cell 1 rfl;have C1:=isEmpty5_any (x2:=x2) (n2:=1) (y2:=y2) (h.imp (fun _ h=>h) (Agree.of k0 hD)) (fun g hg=>Nat.lt_of_lt_of_le (hD g hg) k0.size);have HQ:Hid (oneS sa 1 = !(sa.contains 0)):=by unfold Hid oneS;rw [decide_eq_true rfl];rfl
   obtain ⟨q,hq⟩:∃ q,sa.contains 0=q:=⟨_,rfl⟩;rw [hq] at C1 HQ;clear h hD hq;go_enter Tryz.func39,Tryz.ntmps39
   go_wp2_with fail
   refine C1.mono ?_;rintro e w' ⟨rfl,hb⟩;go_wp2
   go_ret
   exact ⟨by rw [HQ.out];rfl,k0.trans (hb.mono (by simp))⟩
 · have HQ:Hid (oneS sa n2=false):=by unfold Hid oneS;rw [decide_eq_false hn];rfl
   rw [HQ.out];exact isOne_no hn
end
/-- The shape that is told, among those that lay there, and its error. -/
def TogR (D:Nat→Prop) (w:World) (r:Int×List Int) (e:Ending):Prop:=∃ x5 y5,e=.returned (.tuple #[.slice x5 r.2.length y5,.int .i64 r.1])∧RdN D w (.slice x5 r.2.length y5) r.2
section
variable {D:Nat→Prop} {w:World} {x1 x2 x3 x4:Option Addr} {n1 y1 n2 y2 n3 y3 n4 y4:Nat} {sa sb:List Int}
theorem together5_n (hD:∀ g,D g→g<w.heap.size) (h1:RdN D w (.slice x1 n1 y1) sa) (h2:RdN D w (.slice x3 n3 y3) sb):Calls Tryz.prog 19 #[.agg #[.slice x1 n1 y1,.slice x2 n2 y2],.agg #[.slice x3 n3 y3,.slice x4 n4 y4]] w fun e w'=>TogR D w (togS sa n2 sb n4) e∧Below w.heap.size w w':=by
 have HNA:Hid (sa.length=n1):=h1.len.symm;have HNB:Hid (sb.length=n3):=h2.len.symm;by_cases he:sa=sb
 · refine (together_same hD h1 h2 he).mono ?_
   rintro e w' ⟨rfl,hb⟩;refine ⟨⟨x1,y1,?_,?_⟩,hb⟩
   · unfold togS;rw [if_pos he];show _=Ending.returned (.tuple #[.slice x1 sa.length y1,.int .i64 0]);rw [HNA.out]
   · unfold togS;rw [if_pos he];show RdN D w (.slice x1 sa.length y1) sa;rw [HNA.out];exact h1
 have L1:=h1.len;have L3:=h2.len;have HA:Hid (∀ v,Below w.heap.size w v→Calls Tryz.prog 39 #[.agg #[.slice x1 n1 y1,.slice x2 n2 y2]] v fun e w'=>e=.returned (.bool (oneS sa n2))∧Below v.heap.size v w'):=fun v k=>by rw [L1];exact isOne5_any (by rw [← L1];exact h1.imp (fun _ h=>h) (Agree.of k hD)) (fun g hg=>Nat.lt_of_lt_of_le (hD g hg) k.size)
 have HB:Hid (∀ v,Below w.heap.size w v→Calls Tryz.prog 39 #[.agg #[.slice x3 n3 y3,.slice x4 n4 y4]] v fun e w'=>e=.returned (.bool (oneS sb n4))∧Below v.heap.size v w'):=fun v k=>by rw [L3];exact isOne5_any (by rw [← L3];exact h2.imp (fun _ h=>h) (Agree.of k hD)) (fun g hg=>Nat.lt_of_lt_of_le (hD g hg) k.size)
 obtain ⟨A,hA⟩:∃ A,oneS sa n2=A:=⟨_,rfl⟩;obtain ⟨B,hB⟩:∃ B,oneS sb n4=B:=⟨_,rfl⟩;have HT:Hid (togS sa n2 sb n4=if A=true∧(B=false∨sa.length<sb.length) then (0,sb) else if B=true then (0,sa) else if sa.length≠sb.length then (4,[]) else (5,[])):=by unfold Hid togS;rw [if_neg he,hA,hB]
 rw [hA] at HA;rw [hB] at HB;have H1:Hid (RdN D w (.slice x1 n1 y1) sa):=h1;have H2:Hid (RdN D w (.slice x3 n3 y3) sb):=h2;have H0:Hid (RdN D w (.slice none 0 0) []):=⟨(fun x h=>by cases h),none,0,rfl,Nat.le_refl _,by omega,fun _=>rfl,Or.inl rfl⟩;have k1:=below_alloc w (.cells #[.slice x1 n1 y1,.slice x2 n2 y2] 25);have k2:=below_alloc (w.alloc (.cells #[.slice x1 n1 y1,.slice x2 n2 y2] 25)) (.cells #[.slice x3 n3 y3,.slice x4 n4 y4] 25);have X:=(boxA_new w #[.slice x1 n1 y1,.slice x2 n2 y2] 25).below k2 (by simp);have Y:=boxA_new (w.alloc (.cells #[.slice x1 n1 y1,.slice x2 n2 y2] 25)) #[.slice x3 n3 y3,.slice x4 n4 y4] 25;rw [World.size_alloc] at Y;have g:Below w.heap.size w ((w.alloc (.cells #[.slice x1 n1 y1,.slice x2 n2 y2] 25)).alloc (.cells #[.slice x3 n3 y3,.slice x4 n4 y4] 25)):=k1.trans (k2.mono (by simp));have sv:((w.alloc (.cells #[.slice x1 n1 y1,.slice x2 n2 y2] 25)).alloc (.cells #[.slice x3 n3 y3,.slice x4 n4 y4] 25)).heap.size=w.heap.size+1+1:=by simp
 have C1:=equalN_any (h1.imp (fun _ h=>h) (Agree.of g hD)) (h2.imp (fun _ h=>h) (Agree.of g hD));rw [decide_eq_false he] at C1;have x0:=X.cell 0 rfl;have y0:=Y.cell 0 rfl;clear k1 k2 hD h1 h2 he hA hB L1 L3;go_enter Tryz.func19,Tryz.ntmps19
 go_wp2_with fail
 generalize hA:(w.alloc (.cells #[.slice x1 n1 y1,.slice x2 n2 y2] 25)).alloc (.cells #[.slice x3 n3 y3,.slice x4 n4 y4] 25)=v at *;clear hA x0 y0;refine C1.mono ?_;rintro e w1 ⟨rfl,q1⟩;clear C1;have g1:Below w.heap.size w w1:=g.trans (q1.mono g.size);have X1:=X.below q1 (by omega);have Y1:=Y.below q1 (by omega);have s1:=q1.size;have CA:=HA.out w1 g1;have x0:=X1.cell 0 rfl;have x1':=X1.cell 1 rfl
 cases A with
 | false=>
  go_wp2_with fail
  clear x0 x1';refine CA.mono ?_;rintro e w2 ⟨rfl,q2⟩;clear CA;have s2:=q2.size;have g2:Below w.heap.size w w2:=g1.trans (q2.mono g1.size);have X2:=X1.below q2 (by omega);have Y2:=Y1.below q2 (by omega);have CB:=HB.out w2 g2;have y0:=Y2.cell 0 rfl;have y1':=Y2.cell 1 rfl
  cases B with
  | true=>
   go_wp2_with fail
   clear y0 y1';refine CB.mono ?_;rintro e w3 ⟨rfl,q3⟩;clear CB;have s3:=q3.size;have g3:Below w.heap.size w w3:=g2.trans (q3.mono g2.size);have X3:=X2.below q3 (by omega);have x0:=X3.cell 0 rfl;go_wp2
   go_ret2
   exact ⟨by rw [HT.out];exact ⟨x1,y1,by show _=Ending.returned (.tuple #[.slice x1 sa.length y1,.int .i64 0]);rw [HNA.out];rfl,by show RdN D w (.slice x1 sa.length y1) sa;rw [HNA.out];exact H1.out⟩,g3⟩
  | false=>
   go_wp2_with fail
   clear y0 y1';refine CB.mono ?_;rintro e w3 ⟨rfl,q3⟩;clear CB;have s3:=q3.size;have g3:Below w.heap.size w w3:=g2.trans (q3.mono g2.size);have X3:=X2.below q3 (by omega);have Y3:=Y2.below q3 (by omega);have x0:=X3.cell 0 rfl;have y0:=Y3.cell 0 rfl;by_cases hl:n1=n3
   · have hd:((n1:Int) != (n3:Int))=false:=by rw [hl];simp
     have HL:Hid (¬ sa.length≠sb.length):=by unfold Hid;rw [HNA.out,HNB.out];simpa using hl
     clear hl;go_wp2
     go_ret2
     exact ⟨by rw [HT.out,if_neg (by simp),if_neg (by simp),if_neg HL.out];exact ⟨none,0,rfl,H0.out⟩,g3⟩
   · have hd:((n1:Int) != (n3:Int))=true:=by rw [bne_iff_ne];omega
     have HL:Hid (sa.length≠sb.length):=by unfold Hid;rw [HNA.out,HNB.out];exact hl
     clear hl;go_wp2
     go_ret2
     exact ⟨by rw [HT.out,if_neg (by simp),if_neg (by simp),if_pos HL.out];exact ⟨none,0,rfl,H0.out⟩,g3⟩
 | true=>
  go_wp2_with fail
  clear x0 x1';refine CA.mono ?_;rintro e w2 ⟨rfl,q2⟩;clear CA;have s2:=q2.size;have g2:Below w.heap.size w w2:=g1.trans (q2.mono g1.size);have X2:=X1.below q2 (by omega);have Y2:=Y1.below q2 (by omega);have CB:=HB.out w2 g2;have y0:=Y2.cell 0 rfl;have y1':=Y2.cell 1 rfl
  cases B with
  | false=>
   have HT2:Hid (togS sa n2 sb n4=(0,sb)):=by unfold Hid;rw [HT.out];simp
   go_wp2_with fail
   clear y0 y1';refine CB.mono ?_;rintro e w3 ⟨rfl,q3⟩;clear CB;have s3:=q3.size;have g3:Below w.heap.size w w3:=g2.trans (q3.mono g2.size);have Y3:=Y2.below q3 (by omega);have y0:=Y3.cell 0 rfl;go_wp2
   go_ret2
   exact ⟨by rw [HT2.out];exact ⟨x3,y3,by show _=Ending.returned (.tuple #[.slice x3 sb.length y3,.int .i64 0]);rw [HNB.out];rfl,by show RdN D w (.slice x3 sb.length y3) sb;rw [HNB.out];exact H2.out⟩,g3⟩
  | true=>
   go_wp2_with fail
   clear y0 y1';refine CB.mono ?_;rintro e w3 ⟨rfl,q3⟩;clear CB;have s3:=q3.size;have g3:Below w.heap.size w w3:=g2.trans (q3.mono g2.size);have X3:=X2.below q3 (by omega);have Y3:=Y2.below q3 (by omega);have CB3:=HB.out w3 g3;have x0:=X3.cell 0 rfl;have y0:=Y3.cell 0 rfl;have y1':=Y3.cell 1 rfl;by_cases hl:n1<n3
   · have HT2:Hid (togS sa n2 sb n4=(0,sb)):=by
      have hl':sa.length<sb.length:=by rw [HNA.out,HNB.out];exact hl
      unfold Hid;rw [HT.out];simp [hl']
     go_wp2
     go_ret2
     exact ⟨by rw [HT2.out];exact ⟨x3,y3,by show _=Ending.returned (.tuple #[.slice x3 sb.length y3,.int .i64 0]);rw [HNB.out];rfl,by show RdN D w (.slice x3 sb.length y3) sb;rw [HNB.out];exact H2.out⟩,g3⟩
   · have HT2:Hid (togS sa n2 sb n4=(0,sa)):=by
      unfold Hid;have hl':¬ sa.length<sb.length:=by rw [HNA.out,HNB.out];exact hl
      rw [HT.out];simp [hl']
     go_wp2_with fail
     clear y0 y1' x0;refine CB3.mono ?_;rintro e w4 ⟨rfl,q4⟩;clear CB3;have g4:Below w.heap.size w w4:=g3.trans (q4.mono g3.size);have X4:=X3.below q4 (by omega);have x0:=X4.cell 0 rfl;go_wp2
     go_ret2
     exact ⟨by rw [HT2.out];exact ⟨x1,y1,by show _=Ending.returned (.tuple #[.slice x1 sa.length y1,.int .i64 0]);rw [HNA.out];rfl,by show RdN D w (.slice x1 sa.length y1) sa;rw [HNA.out];exact H1.out⟩,g4⟩
theorem together5_any (hD:∀ g,D g→g<w.heap.size) (h1:RdN D w (.slice x1 sa.length y1) sa) (h2:RdN D w (.slice x3 sb.length y3) sb):Calls Tryz.prog 19 #[.agg #[.slice x1 sa.length y1,.slice x2 n2 y2],.agg #[.slice x3 sb.length y3,.slice x4 n4 y4]] w fun e w'=>TogR D w (togS sa n2 sb n4) e∧Below w.heap.size w w':=together5_n hD h1 h2
end
/-- A right item opened is a right array. -/
theorem open_meas {L:Nat} {x:Tr} (hm:(measI (measF L) x).isSome=true) (h0:x.k=3∨0<L):(measF L (openS x)).isSome=true:=by
 unfold openS;rcases measI_cases hm with ⟨h,hr,hc,hk⟩ | ⟨h,hr,hn,hk⟩ | ⟨h,_,_,_,_,hM⟩
 · rw [if_neg (by omega)]
   obtain ⟨L',rfl⟩:∃ L',L=L'+1:=⟨L - 1,by omega⟩;rw [meas_scalar (Or.inl h) (measI_num h ⟨hr,hc,hk⟩)];rfl
 · rw [if_neg (by omega)]
   obtain ⟨L',rfl⟩:∃ L',L=L'+1:=⟨L - 1,by omega⟩;rw [meas_scalar (Or.inr h) (measI_ch h ⟨hr,hn,hk⟩)];rfl
 · rw [if_pos h];exact hM
theorem itv_any {P P':Value→Value→Tr→Prop} {D D':Nat→Prop} {w w':World} {a1 a2 a3:Option Addr} {c1 c2 c3:Nat} {t:Tr} (h:ItV P D w a1 c1 a2 c2 a3 c3 t) (hD:∀ g,D g→D' g) (hb:Agree D w w') (h3:t.kids.length=0):ItV P' D' w' a1 c1 a2 c2 a3 c3 t:=
 ⟨h.rn.imp hD hb,h.rd.imp hD hb,by
  have hx:=h.bx;rw [h3] at hx ⊢;exact hx.imp hD (fun g o j _ hj=>by omega)⟩
/-- What an item is, as an array: its blocks are the item's or new ones. -/
def OpR (f:Nat) (D:Nat→Prop) (w:World) (t:Tr) (e:Ending) (w':World):Prop:=∃ x1 y1 x2 y2,e=.returned (.agg #[.slice x1 (openS t).ns.length y1,.slice x2 (openS t).kids.length y2])∧ArV (f+1) (fun g=>D g∨Fr w.heap.size w'.heap.size g) w' (.slice x1 (openS t).ns.length y1) (.slice x2 (openS t).kids.length y2) (openS t)
section
variable {D:Nat→Prop} {f L:Nat} {w:World} {g o:Nat} {t:Tr}
theorem opened_any (hD:∀ g,D g→g<w.heap.size) (hg:D g) (hx:ItC (ArV f D w) D w g o t) (hm:(measI (measF L) t).isSome=true) :
    Calls Tryz.prog 140 #[.pointer (some ⟨g,o,none⟩)] w fun e w'=>OpR f D w t e w'∧Below w.heap.size w w':=by
 have k0:=below_alloc w (.cells #[.slice none 0 0,.slice none 0 0] 25);have R0:=boxA_new w #[.slice none 0 0,.slice none 0 0] 25;have s0:w.heap.size<(w.alloc (.cells #[.slice none 0 0,.slice none 0 0] 25)).heap.size:=by simp
 have lg:=hD g hg;have hx1:=hx.imp hg (fun _ h=>h) (Agree.of k0 hD) (fun _ _ _ h=>h.agree (Agree.of k0 hD));have HD:Hid (∀ g,D g→g<w.heap.size):=hD;by_cases h3:t.k=3
 · obtain ⟨h,_,_,hk1,_,hM⟩:t.k=3∧noneB t=true∧t.c=0∧t.kids.length=1∧simpB (t.kids.getD 0 tr0)=false∧(measF L (t.kids.getD 0 tr0)).isSome=true:=by
    rcases measI_cases hm with ⟨h,_⟩ | ⟨h,_⟩ | h
    · omega
    · omega
    · exact h
   have HO:Hid (openS t=t.kids.getD 0 tr0):=by unfold Hid openS;rw [if_pos h3]
   obtain ⟨a1,c1,a2,c2,a3,c3,⟨e0,_,_,_,_,e5⟩,hv⟩:=hx1;have hb:=hv.bx;rw [hk1] at hb e5;obtain ⟨gb,ob,rfl,hgb,hcb⟩:=hb.ptr (by omega);obtain ⟨x1,n1,y1,x2,n2,y2,z1,z2,hA⟩:=hcb 0 (by omega);rw [Nat.zero_mul,Nat.add_zero] at z1 z2;rw [h3] at e0;obtain ⟨kd,hkd⟩:∃ kd,t.kids.getD 0 tr0=kd:=⟨_,rfl⟩;rw [hkd] at hA HO;have HA:Hid (ArV f D (w.alloc (.cells #[.slice none 0 0,.slice none 0 0] 25)) (.slice x1 n1 y1) (.slice x2 n2 y2) kd):=hA;obtain ⟨f,rfl⟩:∃ f',f=f'+1:=by
    cases f with
    | zero=>exact hA.elim
    | succ f=>exact ⟨f,rfl⟩
   have EN1:Hid (n1=kd.ns.length):=hA.1.len;have EN2:Hid (n2=kd.kids.length):=hA.2.len;have bd:=hb.bounds;clear hb hcb hv hA hx hm hk1 hkd hM hD h h3;go_enter Tryz.func140,Tryz.ntmps140
   go_upto_region 1 with fail
   generalize hAw:w.alloc (.cells #[.slice none 0 0,.slice none 0 0] 25)=v at *;clear hAw;have r0:=R0.cell 0 rfl;have r1:=R0.cell 1 rfl;have f0:=R0.frozen 0;have f1:=R0.frozen 1;go_wp2
   have Q:=boxA_s1 (boxA_s0 R0 (.slice x1 n1 y1)) (.slice x2 n2 y2);have j0:=Q.cell 0 rfl;have j1:=Q.cell 1 rfl;refine bodyPost_ret (v:=.agg #[.slice x1 n1 y1,.slice x2 n2 y2]) (by simp [results,Tryz.results140,go_sem,j0,j1]) rfl ?_;refine ⟨?_,Below.set2 k0 (Nat.le_refl _) _ _⟩;unfold OpR;rw [HO.out,← EN1.out,← EN2.out];exact ⟨x1,y1,x2,y2,rfl,ArV.imp (fun q hq=>Or.inl hq) (fun q hq=>by have:=HD.out q hq;rw [set1_other (by show ¬ w.heap.size=q;omega),set1_other (by show ¬ w.heap.size=q;omega)]) _ _ _ _ _ (Nat.le_succ _) HA.out⟩
 · have hk0:t.kids.length=0:=by
    rcases measI_cases hm with ⟨_,_,_,h⟩ | ⟨_,_,_,h⟩ | ⟨h,_⟩
    · exact h
    · exact h
    · exact absurd h h3
   have HO:Hid (openS t=arrT [] [t]):=by unfold Hid openS;rw [if_neg h3]
   have h3b:(t.k==3)=false:=by rw [beq_eq_false_iff_ne];exact h3
   obtain ⟨a1,c1,a2,c2,a3,c3,⟨e0,e1,e2,e3,e4,e5⟩,hv⟩:=hx1;have HVH:Hid (ItV (ArV f D (w.alloc (.cells #[.slice none 0 0,.slice none 0 0] 25))) D (w.alloc (.cells #[.slice none 0 0,.slice none 0 0] 25)) a1 c1 a2 c2 a3 c3 t):=hv;clear hv hx hm;obtain ⟨kt,hkt⟩:∃ k,t.k=k:=⟨_,rfl⟩;rw [hkt] at e0 h3 h3b;obtain ⟨n1,hn1⟩:∃ n,t.ns.length=n:=⟨_,rfl⟩;obtain ⟨n2,hn2⟩:∃ n,t.ds.length=n:=⟨_,rfl⟩;rw [hn1] at e2;rw [hn2] at e3;rw [hk0] at e5;obtain ⟨bt,hbt⟩:∃ b,t.b=b:=⟨_,rfl⟩;obtain ⟨ct,hct⟩:∃ b,t.c=b:=⟨_,rfl⟩;rw [hbt] at e1;rw [hct] at e4;have HN1:Hid (t.ns.length=n1):=hn1;have HN2:Hid (t.ds.length=n2):=hn2;have HK0:Hid (t.kids.length=0):=hk0;have HKT:Hid (t.k=kt):=hkt;have HBT:Hid (t.b=bt):=hbt;have HCT:Hid (t.c=ct):=hct;clear hn1 hn2 hk0 hkt hbt hct hD h3;go_enter Tryz.func140,Tryz.ntmps140
   go_upto_region 1 with fail
   generalize hAw:w.alloc (.cells #[.slice none 0 0,.slice none 0 0] 25)=v at *;clear hAw;have kI:=below_alloc v (.cells #[.int .u8 kt,.bool bt,.slice a1 n1 c1,.slice a2 n2 c2,.int .i32 ct,.slice a3 0 c3] 63);have BI:=boxA_new v #[.int .u8 kt,.bool bt,.slice a1 n1 c1,.slice a2 n2 c2,.int .i32 ct,.slice a3 0 c3] 63;have RI:=R0.below kI s0;have gI:Below w.heap.size w (v.alloc (.cells #[.int .u8 kt,.bool bt,.slice a1 n1 c1,.slice a2 n2 c2,.int .i32 ct,.slice a3 0 c3] 63)):=k0.trans (kI.mono (by omega));have sI:v.heap.size≤(v.alloc (.cells #[.int .u8 kt,.bool bt,.slice a1 n1 c1,.slice a2 n2 c2,.int .i32 ct,.slice a3 0 c3] 63)).heap.size:=kI.size;generalize hW:v.alloc (.cells #[.int .u8 kt,.bool bt,.slice a1 n1 c1,.slice a2 n2 c2,.int .i32 ct,.slice a3 0 c3] 63)=u at *;have r0:=RI.cell 0 rfl;have r1:=RI.cell 1 rfl;have f0:=RI.frozen 0;have f1:=RI.frozen 1;go_wp2
   have Q:=boxA_s1 (boxA_s0 RI (.slice none 0 0)) (.slice (some ⟨v.heap.size,0,none⟩) 1 1);have j0:=Q.cell 0 rfl;have j1:=Q.cell 1 rfl;refine bodyPost_ret (v:=.agg #[.slice none 0 0,.slice (some ⟨v.heap.size,0,none⟩) 1 1]) (by simp [results,Tryz.results140,go_sem,j0,j1]) rfl ?_;refine ⟨?_,Below.set2 gI (Nat.le_refl _) _ _⟩;have hB2:BoxA ((u.setCell ⟨w.heap.size,0,none⟩ (.slice none 0 0)).setCell ⟨w.heap.size,1,none⟩ (.slice (some ⟨v.heap.size,0,none⟩) 1 1)) v.heap.size 63 #[.int .u8 kt,.bool bt,.slice a1 n1 c1,.slice a2 n2 c2,.int .i32 ct,.slice a3 0 c3]:=by
    have:=BI;unfold BoxA at this ⊢;rw [set1_other (by show ¬ w.heap.size=v.heap.size;omega),set1_other (by show ¬ w.heap.size=v.heap.size;omega)];exact this
   unfold OpR;rw [HO.out];refine ⟨none,0,some ⟨v.heap.size,0,none⟩,1,rfl,⟨(fun x h=>by cases h),none,0,rfl,Nat.le_refl _,by omega,fun _=>rfl,Or.inl rfl⟩,some ⟨v.heap.size,0,none⟩,1,rfl,Nat.le_refl _,by omega,(fun h=>by cases h),Or.inr ⟨v.heap.size,0,rfl,Or.inr ⟨by omega,hB2.lt⟩,fun j hj => ?_⟩⟩;have hj:j<1:=hj;obtain rfl:j=0:=by omega
   refine ⟨a1,c1,a2,c2,a3,c3,?_,itv_any HVH.out (fun q hq=>Or.inl hq) (fun q hq => ?_) HK0.out⟩
   · show _=some (Value.int .u8 t.k)∧_=some (Value.bool t.b)∧_=some (Value.slice a1 t.ns.length c1)∧_=some (Value.slice a2 t.ds.length c2)∧_=some (Value.int .i32 t.c)∧_=some (Value.slice a3 t.kids.length c3)
     rw [HKT.out,HBT.out,HN1.out,HN2.out,HCT.out,HK0.out];exact ⟨hB2.cell 0 rfl,hB2.cell 1 rfl,hB2.cell 2 rfl,hB2.cell 3 rfl,hB2.cell 4 rfl,hB2.cell 5 rfl⟩
   · have:=HD.out q hq
     rw [set1_other (by show ¬ w.heap.size=q;omega),set1_other (by show ¬ w.heap.size=q;omega),kI.block q (by omega)]
end
section
variable {w:World} {n1 y1 n2 y2:Nat} {x1 x2:Option Addr} {bx:Bool} {a1 a2:Option Addr} {m1 c1 m2 c2:Nat} {er:Int}
/-- What lies in a box of its own. -/
theorem boxed_ok:Calls Tryz.prog 117 #[.agg #[.slice x1 n1 y1,.slice x2 n2 y2],.int .i64 0] w fun e w'=>(∃ k,e=.returned (.tuple #[.agg #[.int .u8 3,.bool false,.slice none 0 0,.slice none 0 0,.int .i32 0,.slice (some ⟨k,0,none⟩) 1 1],.int .i64 0])∧w.heap.size≤k∧BoxA w' k 25 #[.slice x1 n1 y1,.slice x2 n2 y2])∧Below w.heap.size w w':=by
 have k1:=below_alloc w (.cells #[.slice x1 n1 y1,.slice x2 n2 y2] 25);have k2:=below_alloc (w.alloc (.cells #[.slice x1 n1 y1,.slice x2 n2 y2] 25)) (.cells #[.int .u8 0,.bool false,.slice none 0 0,.slice none 0 0,.int .i32 0,.slice none 0 0] 63);have X:=(boxA_new w #[.slice x1 n1 y1,.slice x2 n2 y2] 25).below k2 (by simp);have R:=boxA_new (w.alloc (.cells #[.slice x1 n1 y1,.slice x2 n2 y2] 25)) #[.int .u8 0,.bool false,.slice none 0 0,.slice none 0 0,.int .i32 0,.slice none 0 0] 63;rw [World.size_alloc] at R;have sz:((w.alloc (.cells #[.slice x1 n1 y1,.slice x2 n2 y2] 25)).alloc (.cells #[.int .u8 0,.bool false,.slice none 0 0,.slice none 0 0,.int .i32 0,.slice none 0 0] 63)).heap.size=w.heap.size+1+1:=by simp
 have g:Below w.heap.size w ((w.alloc (.cells #[.slice x1 n1 y1,.slice x2 n2 y2] 25)).alloc (.cells #[.int .u8 0,.bool false,.slice none 0 0,.slice none 0 0,.int .i32 0,.slice none 0 0] 63)):=k1.trans (k2.mono (by simp));have s2:((w.alloc (.cells #[.slice x1 n1 y1,.slice x2 n2 y2] 25)).alloc (.cells #[.int .u8 0,.bool false,.slice none 0 0,.slice none 0 0,.int .i32 0,.slice none 0 0] 63)).heap.size=w.heap.size+1+1:=sz;have z0:=X.cell 0 rfl;have z1:=X.cell 1 rfl;clear k1 k2 sz;go_enter Tryz.func117,Tryz.ntmps117
 go_upto_region 1 with fail
 generalize hA:((w.alloc (.cells #[.slice x1 n1 y1,.slice x2 n2 y2] 25)).alloc (.cells #[.int .u8 0,.bool false,.slice none 0 0,.slice none 0 0,.int .i32 0,.slice none 0 0] 63))=v at *;clear hA;have s2a:w.heap.size+1<v.heap.size:=by omega
 clear s2;have k3:=below_alloc v (.cells #[.slice x1 n1 y1,.slice x2 n2 y2] 25);have B:=boxA_new v #[.slice x1 n1 y1,.slice x2 n2 y2] 25;have R3:=R.below k3 s2a;have hb:∀ u:World,(Instr.build 63 #[(0,.int .u8 3),(3,.slice (some ⟨v.heap.size,0,none⟩) 1 1)]).run Tryz.prog u=.ok (.agg #[.int .u8 3,.bool false,.slice none 0 0,.slice none 0 0,.int .i32 0,.slice (some ⟨v.heap.size,0,none⟩) 1 1]) u:=fun u=>by kernel_rfl
 generalize hW:v.alloc (.cells #[.slice x1 n1 y1,.slice x2 n2 y2] 25)=u at *;have r0:=R3.cell 0 rfl;have r1:=R3.cell 1 rfl;have r2:=R3.cell 2 rfl;have r3:=R3.cell 3 rfl;have r4:=R3.cell 4 rfl;have r5:=R3.cell 5 rfl;have f0:=R3.frozen 0;have f1:=R3.frozen 1;have f2:=R3.frozen 2;have f3:=R3.frozen 3;have f4:=R3.frozen 4;have f5:=R3.frozen 5;go_wp2
 have Q:=R3.set6 (.int .u8 3) (.bool false) (.slice none 0 0) (.slice none 0 0) (.int .i32 0) (.slice (some ⟨v.heap.size,0,none⟩) 1 1);have j0:=Q.cell 0 rfl;have j1:=Q.cell 1 rfl;have j2:=Q.cell 2 rfl;have j3:=Q.cell 3 rfl;have j4:=Q.cell 4 rfl;have j5:=Q.cell 5 rfl;refine bodyPost_ret (v:=.tuple #[.agg #[.int .u8 3,.bool false,.slice none 0 0,.slice none 0 0,.int .i32 0,.slice (some ⟨v.heap.size,0,none⟩) 1 1],.int .i64 0]) (by simp [results,Tryz.results117,go_sem,j0,j1,j2,j3,j4,j5]) rfl ?_;refine ⟨⟨v.heap.size,rfl,by omega,?_⟩,Below.set6 (g.trans (k3.mono g.size)) (by omega) _ _ _ _ _ _⟩;unfold BoxA at B ⊢;rw [set1_other (by show ¬ w.heap.size+1=v.heap.size;omega),set1_other (by show ¬ w.heap.size+1=v.heap.size;omega),set1_other (by show ¬ w.heap.size+1=v.heap.size;omega),set1_other (by show ¬ w.heap.size+1=v.heap.size;omega),set1_other (by show ¬ w.heap.size+1=v.heap.size;omega),set1_other (by show ¬ w.heap.size+1=v.heap.size;omega)];exact B
def zeroIt:Value:=.agg #[.int .u8 0,.bool false,.slice none 0 0,.slice none 0 0,.int .i32 0,.slice none 0 0]
theorem boxed_no (he:(er != 0)=true):Calls Tryz.prog 117 #[.agg #[.slice x1 n1 y1,.slice x2 n2 y2],.int .i64 er] w fun e w'=>e=.returned (.tuple #[zeroIt,.int .i64 er])∧Below w.heap.size w w':=by
 have k1:=below_alloc w (.cells #[.slice x1 n1 y1,.slice x2 n2 y2] 25);have k2:=below_alloc (w.alloc (.cells #[.slice x1 n1 y1,.slice x2 n2 y2] 25)) (.cells #[.int .u8 0,.bool false,.slice none 0 0,.slice none 0 0,.int .i32 0,.slice none 0 0] 63);have R:=boxA_new (w.alloc (.cells #[.slice x1 n1 y1,.slice x2 n2 y2] 25)) #[.int .u8 0,.bool false,.slice none 0 0,.slice none 0 0,.int .i32 0,.slice none 0 0] 63;rw [World.size_alloc] at R;have g:Below w.heap.size w ((w.alloc (.cells #[.slice x1 n1 y1,.slice x2 n2 y2] 25)).alloc (.cells #[.int .u8 0,.bool false,.slice none 0 0,.slice none 0 0,.int .i32 0,.slice none 0 0] 63)):=k1.trans (k2.mono (by simp));have s2:w.heap.size+1<((w.alloc (.cells #[.slice x1 n1 y1,.slice x2 n2 y2] 25)).alloc (.cells #[.int .u8 0,.bool false,.slice none 0 0,.slice none 0 0,.int .i32 0,.slice none 0 0] 63)).heap.size:=by simp
 clear k1 k2;go_enter Tryz.func117,Tryz.ntmps117
 go_upto_region 1 with fail
 generalize hA:((w.alloc (.cells #[.slice x1 n1 y1,.slice x2 n2 y2] 25)).alloc (.cells #[.int .u8 0,.bool false,.slice none 0 0,.slice none 0 0,.int .i32 0,.slice none 0 0] 63))=v at *;clear hA;have hb:∀ u:World,(Instr.build 63 #[]).run Tryz.prog u=.ok (.agg #[.int .u8 0,.bool false,.slice none 0 0,.slice none 0 0,.int .i32 0,.slice none 0 0]) u:=fun u=>by kernel_rfl
 have r0:=R.cell 0 rfl;have r1:=R.cell 1 rfl;have r2:=R.cell 2 rfl;have r3:=R.cell 3 rfl;have r4:=R.cell 4 rfl;have r5:=R.cell 5 rfl;have f0:=R.frozen 0;have f1:=R.frozen 1;have f2:=R.frozen 2;have f3:=R.frozen 3;have f4:=R.frozen 4;have f5:=R.frozen 5;go_wp2
 have Q:=R.set6 (.int .u8 0) (.bool false) (.slice none 0 0) (.slice none 0 0) (.int .i32 0) (.slice none 0 0);have j0:=Q.cell 0 rfl;have j1:=Q.cell 1 rfl;have j2:=Q.cell 2 rfl;have j3:=Q.cell 3 rfl;have j4:=Q.cell 4 rfl;have j5:=Q.cell 5 rfl;refine bodyPost_ret (v:=.tuple #[zeroIt,.int .i64 er]) (by simp [results,Tryz.results117,go_sem,j0,j1,j2,j3,j4,j5,zeroIt]) rfl ?_;exact ⟨rfl,Below.set6 g (by omega) _ _ _ _ _ _⟩
theorem numbered_no (he:(er != 0)=true):Calls Tryz.prog 118 #[.agg #[.bool bx,.slice a1 m1 c1,.slice a2 m2 c2],.int .i64 er] w fun e w'=>e=.returned (.tuple #[zeroIt,.int .i64 er])∧Below w.heap.size w w':=by
 have k1:=below_alloc w (.cells #[.bool bx,.slice a1 m1 c1,.slice a2 m2 c2] 33);have k2:=below_alloc (w.alloc (.cells #[.bool bx,.slice a1 m1 c1,.slice a2 m2 c2] 33)) (.cells #[.int .u8 0,.bool false,.slice none 0 0,.slice none 0 0,.int .i32 0,.slice none 0 0] 63);have R:=boxA_new (w.alloc (.cells #[.bool bx,.slice a1 m1 c1,.slice a2 m2 c2] 33)) #[.int .u8 0,.bool false,.slice none 0 0,.slice none 0 0,.int .i32 0,.slice none 0 0] 63;rw [World.size_alloc] at R;have g:Below w.heap.size w ((w.alloc (.cells #[.bool bx,.slice a1 m1 c1,.slice a2 m2 c2] 33)).alloc (.cells #[.int .u8 0,.bool false,.slice none 0 0,.slice none 0 0,.int .i32 0,.slice none 0 0] 63)):=k1.trans (k2.mono (by simp));have s2:w.heap.size+1<((w.alloc (.cells #[.bool bx,.slice a1 m1 c1,.slice a2 m2 c2] 33)).alloc (.cells #[.int .u8 0,.bool false,.slice none 0 0,.slice none 0 0,.int .i32 0,.slice none 0 0] 63)).heap.size:=by simp
 clear k1 k2;go_enter Tryz.func118,Tryz.ntmps118
 go_upto_region 1 with fail
 generalize hA:((w.alloc (.cells #[.bool bx,.slice a1 m1 c1,.slice a2 m2 c2] 33)).alloc (.cells #[.int .u8 0,.bool false,.slice none 0 0,.slice none 0 0,.int .i32 0,.slice none 0 0] 63))=v at *;clear hA;have hb:∀ u:World,(Instr.build 63 #[]).run Tryz.prog u=.ok (.agg #[.int .u8 0,.bool false,.slice none 0 0,.slice none 0 0,.int .i32 0,.slice none 0 0]) u:=fun u=>by kernel_rfl
 have r0:=R.cell 0 rfl;have r1:=R.cell 1 rfl;have r2:=R.cell 2 rfl;have r3:=R.cell 3 rfl;have r4:=R.cell 4 rfl;have r5:=R.cell 5 rfl;have f0:=R.frozen 0;have f1:=R.frozen 1;have f2:=R.frozen 2;have f3:=R.frozen 3;have f4:=R.frozen 4;have f5:=R.frozen 5;go_wp2
 have Q:=R.set6 (.int .u8 0) (.bool false) (.slice none 0 0) (.slice none 0 0) (.int .i32 0) (.slice none 0 0);have j0:=Q.cell 0 rfl;have j1:=Q.cell 1 rfl;have j2:=Q.cell 2 rfl;have j3:=Q.cell 3 rfl;have j4:=Q.cell 4 rfl;have j5:=Q.cell 5 rfl;refine bodyPost_ret (v:=.tuple #[zeroIt,.int .i64 er]) (by simp [results,Tryz.results118,go_sem,j0,j1,j2,j3,j4,j5,zeroIt]) rfl ?_;exact ⟨rfl,Below.set6 g (by omega) _ _ _ _ _ _⟩
/-- A number as an item, or an error. -/
theorem numbered5_any:Calls Tryz.prog 118 #[.agg #[.bool bx,.slice a1 m1 c1,.slice a2 m2 c2],.int .i64 er] w fun e w'=>(∃ v:IV,e=.returned (.tuple #[.agg #[.int .u8 v.k,.bool v.b,.slice v.a1 v.n1 v.c1,.slice v.a2 v.n2 v.c2,.int .i32 v.c,.slice v.a3 v.n3 v.c3],.int .i64 er])∧Hid (er=0→v=⟨1,bx,a1,m1,c1,a2,m2,c2,0,none,0,0⟩))∧Below w.heap.size w w':=by
 by_cases h:er=0
 · subst h
   refine numbered_ok.mono ?_;rintro e w' ⟨rfl,hb⟩;exact ⟨⟨⟨1,bx,a1,m1,c1,a2,m2,c2,0,none,0,0⟩,rfl,fun _=>rfl⟩,hb⟩
 · refine (numbered_no (by rw [bne_iff_ne];exact h)).mono ?_
   rintro e w' ⟨rfl,hb⟩;exact ⟨⟨iv0,rfl,fun e=>absurd e h⟩,hb⟩
/-- An array as an item, or an error. -/
theorem boxed5_any:Calls Tryz.prog 117 #[.agg #[.slice x1 n1 y1,.slice x2 n2 y2],.int .i64 er] w fun e w'=>(∃ v:IV,e=.returned (.tuple #[.agg #[.int .u8 v.k,.bool v.b,.slice v.a1 v.n1 v.c1,.slice v.a2 v.n2 v.c2,.int .i32 v.c,.slice v.a3 v.n3 v.c3],.int .i64 er])∧Hid (er=0→∃ k,v=⟨3,false,none,0,0,none,0,0,0,some ⟨k,0,none⟩,1,1⟩∧w.heap.size≤k∧BoxA w' k 25 #[.slice x1 n1 y1,.slice x2 n2 y2]))∧Below w.heap.size w w':=by
 by_cases h:er=0
 · subst h
   refine boxed_ok.mono ?_;rintro e w' ⟨⟨k,rfl,h1,h2⟩,hb⟩;exact ⟨⟨⟨3,false,none,0,0,none,0,0,0,some ⟨k,0,none⟩,1,1⟩,rfl,fun _=>⟨k,rfl,h1,h2⟩⟩,hb⟩
 · refine (boxed_no (by rw [bne_iff_ne];exact h)).mono ?_
   rintro e w' ⟨rfl,hb⟩;exact ⟨⟨iv0,rfl,fun e=>absurd e h⟩,hb⟩
theorem pairsOf5_any {x3 x4:Option Addr} {n3 y3 n4 y4:Nat}:Calls Tryz.prog 21 #[.agg #[.slice x1 n1 y1,.slice x2 n2 y2],.agg #[.slice x3 n3 y3,.slice x4 n4 y4]] w fun e w'=>e=.returned (.func (.func 43) #[] #[.pointer (some ⟨w.heap.size,0,none⟩),.pointer (some ⟨w.heap.size+1,0,none⟩)])∧BoxA w' w.heap.size 25 #[.slice x1 n1 y1,.slice x2 n2 y2]∧BoxA w' (w.heap.size+1) 25 #[.slice x3 n3 y3,.slice x4 n4 y4]∧Below w.heap.size w w':=by
 have k1:=below_alloc w (.cells #[.slice x1 n1 y1,.slice x2 n2 y2] 25);have k2:=below_alloc (w.alloc (.cells #[.slice x1 n1 y1,.slice x2 n2 y2] 25)) (.cells #[.slice x3 n3 y3,.slice x4 n4 y4] 25);have X:=(boxA_new w #[.slice x1 n1 y1,.slice x2 n2 y2] 25).below k2 (by simp);have Y:=boxA_new (w.alloc (.cells #[.slice x1 n1 y1,.slice x2 n2 y2] 25)) #[.slice x3 n3 y3,.slice x4 n4 y4] 25;rw [World.size_alloc] at Y;go_enter Tryz.func21,Tryz.ntmps21;go_wp2
 go_ret
 exact ⟨rfl,X,Y,k1.trans (k2.mono (by simp))⟩
end
/-- What is told without reckoning. -/
def unS (d:Dy) (x y:Tr):Int×Tr:=if d.no x y=true then (3,zeroN) else (0,zeroN)
/-- A number that is told, or an error. -/
def NumE (base:Nat) (er:Int) (T:Bool→List Int→List Int→Prop) (e:Ending) (w':World):Prop:=∃ b z1 ns u1 z2 ds u2,e=.returned (.tuple #[.agg #[.bool b,.slice z1 ns.length u1,.slice z2 ds.length u2],.int .i64 er])∧Own base w' (.slice z1 ns.length u1) ns∧Own base w' (.slice z2 ds.length u2) ds∧Hid (T b ns ds)
theorem numE_of {base:Nat} {er:Int} {r q:Int×Tr} {e:Ending} {w':World} (hr:r.1=er) (h:NumE base er (fun b ns ds=>er=0→numT b ns ds=r.2) e w') (hq:q=r):NumE base q.1 (fun b ns ds=>q.1=0→numT b ns ds=q.2) e w':=by
 subst hq;subst hr;exact h
abbrev NumR5 (base:Nat) (r:Int×Tr) (e:Ending) (w':World):Prop:=NumE base r.1 (fun b ns ds=>r.1=0→numT b ns ds=r.2) e w'
/-- scalar.unreckoned at the glyph tells what is meant. -/
def UnOK (d:Dy):Prop:=∀ (v:World) (bx cy:Bool) (a1 a2 a3 a4:Option Addr) (xn xd yn yd:List Int) (c1 c2 c3 c4:Nat),RightP bx xn xd→RightP cy yn yd→Rd v.heap.size v (.slice a1 xn.length c1) xn→Rd v.heap.size v (.slice a2 xd.length c2) xd→Rd v.heap.size v (.slice a3 yn.length c3) yn→Rd v.heap.size v (.slice a4 yd.length c4) yd →
 Calls Tryz.prog 41 #[.int .i32 d.gl,.agg #[.bool bx,.slice a1 xn.length c1,.slice a2 xd.length c2],.agg #[.bool cy,.slice a3 yn.length c3,.slice a4 yd.length c4]] v fun e w'=>NumR5 v.heap.size (unS d (numT bx xn xd) (numT cy yn yd)) e w'∧Below v.heap.size v w'
/-- The function that lies in the pairing tells what is meant, in each world where all but the pairing stays. -/
structure DoOK (d:Dy) (kf:Nat) (caps:Array Value) (p:Nat) (w0:World):Prop where
 call:∀ (v:World),Kp p w0 v→∀ (bx cy:Bool) (a1 a2 a3 a4:Option Addr) (xn xd yn yd:List Int) (c1 c2 c3 c4:Nat),RightP bx xn xd→RightP cy yn yd→Rd v.heap.size v (.slice a1 xn.length c1) xn→Rd v.heap.size v (.slice a2 xd.length c2) xd→Rd v.heap.size v (.slice a3 yn.length c3) yn→Rd v.heap.size v (.slice a4 yd.length c4) yd →
  Calls Tryz.prog kf (#[.agg #[.bool bx,.slice a1 xn.length c1,.slice a2 xd.length c2],.agg #[.bool cy,.slice a3 yn.length c3,.slice a4 yd.length c4]]++caps) v fun e w'=>NumR5 v.heap.size (d.op (numT bx xn xd) (numT cy yn yd)) e w'∧Below v.heap.size v w'
 enter:∀ args w,Sem.run Tryz.prog (callFunc kf args) w=.ok (.enter kf args) w
section
variable {w:World} {p q n1 n2 n3 n4 c1 c2 c3 c4:Nat} {a1 a2 a3 a4:Option Addr} {gl:Int} {B:Bool}
theorem isSmall5_any (g1:gl≠42) (g2:gl≠33) (h1:w.cell? ⟨p,1,none⟩=some (.slice a1 n1 c1)) (h2:w.cell? ⟨p,2,none⟩=some (.slice a2 n2 c2)) (h3:w.cell? ⟨q,1,none⟩=some (.slice a3 n3 c3)) (h4:w.cell? ⟨q,2,none⟩=some (.slice a4 n4 c4)) (l1:n1≤32) (l2:n2≤32) (l3:n3≤32) (l4:n4≤32) (hs:decide (n1+n2+n3+n4<32)=B) :
    Calls Tryz.prog 164 #[.int .i32 gl,.pointer (some ⟨p,0,none⟩),.pointer (some ⟨q,0,none⟩)] w fun e w'=>e=.returned (.bool B)∧Below w.heap.size w w':=by
 have d1:(gl==42)=false:=by rw [beq_eq_false_iff_ne];exact g1
 have d2:(gl==33)=false:=by rw [beq_eq_false_iff_ne];exact g2
 have w1:IntKind.i64.wrap ((n1:Int)+(n2:Int))=(n1:Int)+(n2:Int):=by rw [IntKind.wrap_i64];omega
 have w2:IntKind.i64.wrap ((n1:Int)+(n2:Int)+(n3:Int))=(n1:Int)+(n2:Int)+(n3:Int):=by rw [IntKind.wrap_i64];omega
 have w3:IntKind.i64.wrap ((n1:Int)+(n2:Int)+(n3:Int)+(n4:Int))=(n1:Int)+(n2:Int)+(n3:Int)+(n4:Int):=by rw [IntKind.wrap_i64];omega
 cases B with
 | true=>
  have hs1:(n1:Int)+(n2:Int)+(n3:Int)+(n4:Int)<32:=by rw [decide_eq_true_iff] at hs;omega
  go_enter Tryz.func164,Tryz.ntmps164
  go_wp2_with fail
  go_quiet (fail)
  go_wp2
  go_ret
  exact ⟨rfl,below_drewN' (Below.refl _ _) _⟩
 | false=>
  have HS1:Hid (decide ((n1:Int)+(n2:Int)+(n3:Int)+(n4:Int)<32)=false):=by unfold Hid;rw [decide_eq_false_iff_not] at hs ⊢;omega
  clear hs;go_enter Tryz.func164,Tryz.ntmps164
  go_wp2_with fail
  go_quiet (fail)
  go_wp2
  go_ret
  refine ⟨?_,below_drewN' (Below.refl _ _) _⟩;show Ending.returned (Value.bool (decide ((n1:Int)+(n2:Int)+(n3:Int)+(n4:Int)<32)))=_;rw [HS1.out]
end
end Go.Proofs.YtmijanocljmaeaaGreat
