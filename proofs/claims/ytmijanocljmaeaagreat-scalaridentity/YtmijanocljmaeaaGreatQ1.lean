/- What a function of one number makes of an array, as it is meant: errors, items. -/
import Derived.Test.YtmijanocljmaeaaGreatP5
import Derived.Test.YtmijanocljmaeaaGreatM3
import Derived.Test.YtmijanocljmaeaaGreatKS4
set_option maxRecDepth 100000
set_option maxHeartbeats 32000000
set_option linter.unusedVariables false
set_option linter.unusedSimpArgs false
namespace Go.Proofs.YtmijanocljmaeaaGreat
open Go.RowKit
/-- The glyph, its function, and what it tells of a number: an error, and the number. -/
structure Mo where
 gl:Int
 kf:Nat
 op:Tr→Int×Tr
/-- A thing that is told, or its error alone. -/
def toldM (mk:Tr→Tr) (r:Int×Tr):Int×Tr:=if r.1=0 then (0,mk r.2) else (r.1,tr0)
def itemM (rec:Tr→Int×Tr) (m:Mo) (x:Tr):Int×Tr:=
 if x.k=2 then (3,tr0) else if x.k=3 then toldM boxT (rec (x.kids.getD 0 tr0)) else toldM id (m.op x)
/-- So many items. -/
def stM (it:Nat→Int×Tr):Nat→Int×List Tr
 | 0=>(0,[])
 | i+1=>if (stM it i).1=0 then (if (it i).1=0 then (0,(stM it i).2++[(it i).2]) else ((it i).1,[])) else stM it i
/-- An array, so many levels deep. -/
def thruM (m:Mo):Nat→Tr→Int×Tr
 | 0,_=>(0,tr0)
 | L+1,t=>
  if t.ns.contains 0=true then (0,arrT t.ns [wholeT 0])
  else (let s:=stM (fun i=>itemM (thruM m L) m (t.kids.getD i tr0)) t.kids.length
        if s.1=0 then (0,arrT t.ns s.2) else (s.1,tr0))
theorem stM_err {it:Nat→Int×Tr} {i:Nat} (h:(stM it i).1≠0):∀ j,stM it (i+j)=stM it i
 | 0=>rfl
 | j+1=>by rw [← Nat.add_assoc,stM,stM_err h j,if_neg h]
theorem stM_to {it:Nat→Int×Tr} {i n:Nat} (h:(stM it i).1≠0) (hi:i≤n):stM it n=stM it i:=by
 have:=stM_err h (n - i)
 rwa [Nat.add_sub_cancel' hi] at this
theorem stM_ok {it:Nat→Int×Tr} {i:Nat} (h:(stM it i).1=0) (hr:(it i).1=0):stM it (i+1)=(0,(stM it i).2++[(it i).2]):=by
 rw [stM,if_pos h,if_pos hr]
theorem stM_no {it:Nat→Int×Tr} {i:Nat} (h:(stM it i).1=0) (hr:(it i).1≠0):stM it (i+1)=((it i).1,[]):=by
 rw [stM,if_pos h,if_neg hr]
theorem stM_len {it:Nat→Int×Tr}:∀ i,(stM it i).1=0→(stM it i).2.length=i
 | 0,_=>rfl
 | i+1,h=>by
  by_cases h0:(stM it i).1=0
  · by_cases hr:(it i).1=0
    · rw [stM_ok h0 hr]
      simp [stM_len i h0]
    · rw [stM_no h0 hr] at h
      exact absurd h hr
  · rw [stM,if_neg h0] at h
    exact absurd h h0
theorem stM_at {it:Nat→Int×Tr}:∀ n,(stM it n).1=0→∀ i,i<n→(it i).1=0∧(stM it n).2.getD i tr0=(it i).2
 | 0,_,i,hi=>by omega
 | n+1,h,i,hi=>by
  by_cases h0:(stM it n).1=0
  · by_cases hr:(it n).1=0
    · rw [stM_ok h0 hr]
      have hl:=stM_len n h0;by_cases hin:i<n
      · have q:=stM_at n h0 i hin
        refine ⟨q.1,?_⟩;rw [← q.2,List.getD_eq_getElem?_getD,List.getD_eq_getElem?_getD,List.getElem?_append_left (by omega)]
      · obtain rfl:i=n:=by omega
        refine ⟨hr,?_⟩;rw [List.getD_eq_getElem?_getD,List.getElem?_append_right (by omega),hl];simp
    · rw [stM_no h0 hr] at h
      exact absurd h hr
  · rw [stM,if_neg h0] at h
    exact absurd h h0
/-- An item that is told, or an error. -/
def ItRM (Z L:Nat) (r:Int×Tr) (e:Ending) (w':World):Prop:=∃ v:IV,e=.returned (.tuple #[.agg #[.int .u8 v.k,.bool v.b,.slice v.a1 v.n1 v.c1,.slice v.a2 v.n2 v.c2,.int .i32 v.c,.slice v.a3 v.n3 v.c3],.int .i64 r.1])∧Hid (r.1=0→IsIt L (Fr Z w'.heap.size) w' v r.2)
/-- The function tells what is meant of each right number. -/
structure MoOK (m:Mo):Prop where
 enter:∀ args w,Sem.run Tryz.prog (callFunc m.kf args) w=.ok (.enter m.kf args) w
 call:∀ (w:World) (bx:Bool) (a1 a2:Option Addr) (ns ds:List Int) (c1 c2:Nat),RightP bx ns ds→Rd w.heap.size w (.slice a1 ns.length c1) ns→Rd w.heap.size w (.slice a2 ds.length c2) ds →
 Calls Tryz.prog m.kf #[.agg #[.bool bx,.slice a1 ns.length c1,.slice a2 ds.length c2]] w fun e w'=>NumR5 w.heap.size (m.op (numT bx ns ds)) e w'∧Below w.heap.size w w'
/-- What throughItem tells of an item. -/
def ItemMOK (m:Mo) (L:Nat):Prop:=∀ (f:Nat) (D:Nat→Prop) (w:World) (a1 a2 a3:Option Addr) (c1 c2 c3:Nat) (x:Tr),(∀ g,D g→g<w.heap.size)→ItV (ArV f D w) D w a1 c1 a2 c2 a3 c3 x→(measI (measF L) x).isSome=true →
 Calls Tryz.prog 64 #[.func (.func m.kf) #[] #[],.agg #[.int .u8 x.k,.bool x.b,.slice a1 x.ns.length c1,.slice a2 x.ds.length c2,.int .i32 x.c,.slice a3 x.kids.length c3]] w fun e w'=>ItRM w.heap.size L (itemM (thruM m L) m x) e w'∧Below w.heap.size w w'
/-- What through tells of an array. -/
def ThruMOK (m:Mo) (L:Nat):Prop:=∀ (f:Nat) (D:Nat→Prop) (w:World) (x1 x2:Option Addr) (n1 y1 n2 y2:Nat) (t:Tr),(∀ g,D g→g<w.heap.size)→ArV f D w (.slice x1 n1 y1) (.slice x2 n2 y2) t→(measF (L+1) t).isSome=true →
 Calls Tryz.prog 27 #[.func (.func m.kf) #[] #[],.agg #[.slice x1 n1 y1,.slice x2 n2 y2]] w fun e w'=>WhR w.heap.size L (thruM m (L+1) t) e w'∧Below w.heap.size w w'
section
variable {m:Mo} {L:Nat}
theorem throughM_none (f:Nat) (D:Nat→Prop) (w:World) (x1 x2:Option Addr) (y1 n2 y2:Nat) (t:Tr) (hD:∀ g,D g→g<w.heap.size) (hsh:RdN D w (.slice x1 t.ns.length y1) t.ns) (hl:t.ns.length≤8) (h0:t.ns.contains 0=true) :
    Calls Tryz.prog 27 #[.func (.func m.kf) #[] #[],.agg #[.slice x1 t.ns.length y1,.slice x2 n2 y2]] w fun e w'=>WhR w.heap.size L (thruM m (L+1) t) e w'∧Below w.heap.size w w':=by
 have HR:Hid (thruM m (L+1) t=(0,arrT t.ns [wholeT 0])):=by unfold Hid;rw [thruM,if_pos h0]
 obtain ⟨sh,hshe⟩:∃ sh,t.ns=sh:=⟨_,rfl⟩;rw [hshe] at hsh hl h0 HR ⊢;clear hshe;have k1:=below_alloc w (.cells #[.slice x1 sh.length y1,.slice x2 n2 y2] 25);have k2:=below_alloc (w.alloc (.cells #[.slice x1 sh.length y1,.slice x2 n2 y2] 25)) (.cells #[.slice none 0 0,.slice none 0 0] 25);have g:Below w.heap.size w ((w.alloc (.cells #[.slice x1 sh.length y1,.slice x2 n2 y2] 25)).alloc (.cells #[.slice none 0 0,.slice none 0 0] 25)):=k1.trans (k2.mono (by simp));have X0:=(boxA_new w #[.slice x1 sh.length y1,.slice x2 n2 y2] 25).below k2 (by simp);have R0:=boxA_new (w.alloc (.cells #[.slice x1 sh.length y1,.slice x2 n2 y2] 25)) #[.slice none 0 0,.slice none 0 0] 25;rw [World.size_alloc] at R0;have sv:((w.alloc (.cells #[.slice x1 sh.length y1,.slice x2 n2 y2] 25)).alloc (.cells #[.slice none 0 0,.slice none 0 0] 25)).heap.size=w.heap.size+1+1:=by simp
 have HD:Hid (∀ g,D g→g<w.heap.size):=hD;have hsh1:=hsh.imp (fun _ h=>h) (Agree.of g hD);clear hD hsh k1 k2;have C1:=isEmpty5_any (x2:=x2) (n2:=n2) (y2:=y2) hsh1 (fun q hq=>by have:=HD.out q hq;omega);rw [h0] at C1;have x0:=X0.cell 0 rfl;have x1':=X0.cell 1 rfl;go_enter Tryz.func27,Tryz.ntmps27
 go_wp2_with fail
 generalize hA:((w.alloc (.cells #[.slice x1 sh.length y1,.slice x2 n2 y2] 25)).alloc (.cells #[.slice none 0 0,.slice none 0 0] 25))=v at *;clear hA x0 x1';refine C1.mono ?_;rintro e w1 ⟨rfl,q1⟩;clear C1;have s1:=q1.size;have X1:=X0.below q1 (by omega);have R1:=R0.below q1 (by omega);have g1:Below w.heap.size w w1:=g.trans (q1.mono g.size);have C2:=empty_any (hsh1.imp (fun _ h=>h) (Agree.of q1 (fun q hq=>by have:=HD.out q hq;omega))) (by omega) (fun q hq=>by have:=HD.out q hq;omega);clear hsh1;have x0:=X1.cell 0 rfl
 go_wp2_with fail
 clear x0;refine C2.mono ?_;rintro e w2 ⟨x5,y5,b3,d3,rfl,hv,k2⟩;clear C2;have s2:=k2.size;have HV:Hid (ArV 1 (Fr w1.heap.size w2.heap.size) w2 (.slice x5 sh.length y5) (.slice b3 1 d3) (arrT sh [wholeT 0])):=hv;clear hv;have R2:=R1.below k2 (by omega);have g2:Below w.heap.size w w2:=g1.trans (k2.mono g1.size);have r0:=R2.cell 0 rfl;have r1:=R2.cell 1 rfl;have f0:=R2.frozen 0;have f1:=R2.frozen 1;have Q:=boxA_s1 (boxA_s0 R2 (.slice x5 sh.length y5)) (.slice b3 1 d3);have j0:=Q.cell 0 rfl;have j1:=Q.cell 1 rfl;go_wp2
 refine bodyPost_ret (v:=.tuple #[.agg #[.slice x5 sh.length y5,.slice b3 1 d3],.int .i64 0]) (by simp [results,Tryz.results27,go_sem,j0,j1]) rfl ?_;rw [HR.out];refine ⟨⟨x5,sh.length,y5,b3,1,d3,rfl,fun _ => ?_,fun h=>absurd rfl h⟩,Below.set2 g2 (by omega) _ _⟩;exact ArV.imp (fun q hq=>⟨by have:=hq.1;omega,by rw [set1_size,set1_size];exact hq.2⟩) (fun q hq=>by rw [set1_other (by show ¬ w.heap.size+1=q;have:=hq.1;omega),set1_other (by show ¬ w.heap.size+1=q;have:=hq.1;omega)]) 1 (L+1) _ _ _ (by omega) HV.out
theorem throughM_all (hI:ItemMOK m L):ThruMOK m L:=by
 intro f D w x1 x2 n1 y1 n2 y2 t hD va hm;obtain ⟨LA,eA,hl8,_,hkl,hk4,okA⟩:=measF_some hm;obtain rfl:LA=L:=by omega
 obtain ⟨f,rfl⟩:∃ f',f=f'+1:=by
  cases f with
  | zero=>exact va.elim
  | succ f=>exact ⟨f,rfl⟩
 obtain rfl:=va.1.len;obtain rfl:=RowB.len va.2;by_cases h0:t.ns.contains 0=true
 · exact throughM_none f D w x1 x2 y1 _ y2 t hD va.1 hl8 h0
 replace h0:t.ns.contains 0=false:=by simpa using h0
 obtain ⟨it,hit⟩:∃ it,(fun i=>itemM (thruM m LA) m (t.kids.getD i tr0))=it:=⟨_,rfl⟩;have HR:Hid (thruM m (LA+1) t=if (stM it t.kids.length).1=0 then (0,arrT t.ns (stM it t.kids.length).2) else ((stM it t.kids.length).1,tr0)):=by
  unfold Hid;rw [thruM,if_neg (by rw [h0];simp),hit]
 have hpos:0<t.kids.length:=by omega
 obtain ⟨gA,oA,rfl,hgA,hcA⟩:=va.2.ptr hpos;have HITEM:Hid (∀ i,i<t.kids.length→∀ v',Below w.heap.size w v'→∃ k b a1 n1 c1 a2 n2 c2 c a3 n3 c3,(v'.cell? ⟨gA,oA+i*6,none⟩=some (.int .u8 k)∧v'.cell? ⟨gA,oA+i*6+1,none⟩=some (.bool b)∧v'.cell? ⟨gA,oA+i*6+2,none⟩=some (.slice a1 n1 c1)∧v'.cell? ⟨gA,oA+i*6+3,none⟩=some (.slice a2 n2 c2)∧v'.cell? ⟨gA,oA+i*6+4,none⟩=some (.int .i32 c)∧v'.cell? ⟨gA,oA+i*6+5,none⟩=some (.slice a3 n3 c3))∧Hid (Calls Tryz.prog 64 #[.func (.func m.kf) #[] #[],.agg #[.int .u8 k,.bool b,.slice a1 n1 c1,.slice a2 n2 c2,.int .i32 c,.slice a3 n3 c3]] v' fun e w'=>ItRM v'.heap.size LA (it i) e w'∧Below v'.heap.size v' w')):=by
  intro i hi v' kv;have hag:Agree D w v':=Agree.of kv hD;obtain ⟨a1,c1,a2,c2,a3,c3,⟨e0,e1,e2,e3,e4,e5⟩,hv⟩:=(hcA i hi).imp hgA (fun _ h=>h) hag (fun _ _ _ h=>h.agree hag);rw [← hit];exact ⟨_,_,a1,_,c1,a2,_,c2,_,a3,_,c3,⟨e0,e1,e2,e3,e4,e5⟩,hI f D v' a1 a2 a3 c1 c2 c3 _ (fun q hq=>Nat.lt_of_lt_of_le (hD q hq) kv.size) hv (okA _ (getD_memI hi))⟩
 obtain ⟨n,hn⟩:∃ n,t.kids.length=n:=⟨_,rfl⟩;obtain ⟨sh,hshe⟩:∃ sh,t.ns=sh:=⟨_,rfl⟩;have hsh:=va.1;rw [hshe] at hsh hl8 h0 HR ⊢;rw [hn] at HR HITEM hk4 hpos ⊢;have lA:gA<w.heap.size:=hD gA hgA;clear hshe hn hcA va hm hkl okA hit hI eA;have k1:=below_alloc w (.cells #[.slice x1 sh.length y1,.slice (some ⟨gA,oA,none⟩) n y2] 25);have k2:=below_alloc (w.alloc (.cells #[.slice x1 sh.length y1,.slice (some ⟨gA,oA,none⟩) n y2] 25)) (.cells #[.slice none 0 0,.slice none 0 0] 25);have g:Below w.heap.size w ((w.alloc (.cells #[.slice x1 sh.length y1,.slice (some ⟨gA,oA,none⟩) n y2] 25)).alloc (.cells #[.slice none 0 0,.slice none 0 0] 25)):=k1.trans (k2.mono (by simp));have X0:=(boxA_new w #[.slice x1 sh.length y1,.slice (some ⟨gA,oA,none⟩) n y2] 25).below k2 (by simp);have R0:=boxA_new (w.alloc (.cells #[.slice x1 sh.length y1,.slice (some ⟨gA,oA,none⟩) n y2] 25)) #[.slice none 0 0,.slice none 0 0] 25;rw [World.size_alloc] at R0;have sv:((w.alloc (.cells #[.slice x1 sh.length y1,.slice (some ⟨gA,oA,none⟩) n y2] 25)).alloc (.cells #[.slice none 0 0,.slice none 0 0] 25)).heap.size=w.heap.size+1+1:=by simp
 have HD:Hid (∀ g,D g→g<w.heap.size):=hD;have hsh1:=hsh.imp (fun _ h=>h) (Agree.of g hD);clear hD hsh k1 k2 hgA;have C1:=isEmpty5_any (x2:=some ⟨gA,oA,none⟩) (n2:=n) (y2:=y2) hsh1 (fun q hq=>by have:=HD.out q hq;omega);rw [h0] at C1;have x0:=X0.cell 0 rfl;have x1':=X0.cell 1 rfl;go_enter Tryz.func27,Tryz.ntmps27
 go_wp2_with fail
 generalize hA:((w.alloc (.cells #[.slice x1 sh.length y1,.slice (some ⟨gA,oA,none⟩) n y2] 25)).alloc (.cells #[.slice none 0 0,.slice none 0 0] 25))=v at *;clear hA x0 x1';refine C1.mono ?_;rintro e w1 ⟨rfl,q1⟩;clear C1 h0;have s1:=q1.size;have X1:=X0.below q1 (by omega);have R1:=R0.below q1 (by omega);have g1:Below w.heap.size w w1:=g.trans (q1.mono g.size);have C2:=copyOf5_any (hsh1.imp (fun _ h=>h) (Agree.of q1 (fun q hq=>by have:=HD.out q hq;omega))) (by omega);clear hsh1;have x0:=X1.cell 0 rfl
 go_wp2_with fail
 clear x0;refine C2.mono ?_;rintro e w2 ⟨x5,y5,rfl,oN,kN⟩;clear C2;have s2:=kN.size;have X2:=X1.below kN (by omega);have R2:=R1.below kN (by omega);have kb:=below_alloc w2 (.cells #[.slice x5 sh.length y5,.slice none 0 0] 25);have Y2:=boxA_new w2 #[.slice x5 sh.length y5,.slice none 0 0] 25;have X3:=X2.below kb (by omega);have R3:=R2.below kb (by omega);have kw:Below w.heap.size w (w2.alloc (.cells #[.slice x5 sh.length y5,.slice none 0 0] 25)):=(g1.trans (kN.mono g1.size)).trans (kb.mono (by omega));have s3:(w2.alloc (.cells #[.slice x5 sh.length y5,.slice none 0 0] 25)).heap.size=w2.heap.size+1:=by simp
 have HN:Hid (RdN (Fr w1.heap.size w2.heap.size) (w2.alloc (.cells #[.slice x5 sh.length y5,.slice none 0 0] 25)) (.slice x5 sh.length y5) sh):=oN.imp (fun _ h=>h) (Agree.of kb (fun q hq=>hq.2));clear oN X1 X2 R1 R2;have x1':=X3.cell 1 rfl
 go_wp2_with fail
 clear x1';generalize hA':w2.alloc (.cells #[.slice x5 sh.length y5,.slice none 0 0] 25)=u at *;clear hA';have s3a:w2.heap.size<u.heap.size:=by omega
 have s3b:u.heap.size≤w2.heap.size+1:=by omega
 clear s3;obtain ⟨i0,hi,hz0,hz1,hz2⟩:=info_parts info_item3
 go_loopw [22] (fun iv wr=>∃ (i:Nat) (b3:Option Addr) (d3:Nat),iv=.int .i64 i∧i≤n∧Hid ((stM it i).1=0)∧BoxA wr w2.heap.size 25 #[.slice x5 sh.length y5,.slice b3 i d3]∧RowOf 63 6 (ElI LA (stM it i).2) u.heap.size wr (.slice b3 i d3) i∧Below w.heap.size w wr∧u.heap.size≤wr.heap.size∧Hid (∀ g,g<u.heap.size→g≠w2.heap.size→wr.heap[g]? = u.heap[g]?)) (fun iv _=>n - (intOf iv).toNat)
 case atStart=>exact ⟨0,none,0,rfl,Nat.zero_le _,rfl,Y2,RowOf.nil,kw,Nat.le_refl _,fun _ _ _=>rfl⟩
 case round=>
  obtain ⟨i,b3,d3,rfl,hil,HZ,Yr,hrow,kr,hsr,HK⟩:=hrel;have lyr:=Yr.lt;have Rr:BoxA wr (w.heap.size+1) 25 #[.slice none 0 0,.slice none 0 0]:=by
   have:=R3;unfold BoxA at this ⊢;rw [HK.out _ (by omega) (by omega)];exact this
  by_cases hlt:i<n
  · have Xr:BoxA wr w.heap.size 25 #[.slice x1 sh.length y1,.slice (some ⟨gA,oA,none⟩) n y2]:=by
     have:=X3;unfold BoxA at this ⊢;rw [HK.out _ (by omega) (by omega)];exact this
    obtain ⟨k,b,a1,n1,c1,a2,n2,c2,c,a3,n3,c3,⟨e0,e1,e2,e3,e4,e5⟩,CI⟩:=HITEM.out i hlt wr kr;have x1':=Xr.cell 1 rfl
    go_wp2_with fail
    clear x1' e0 e1 e2 e3 e4 e5;refine CI.out.mono ?_;rintro e w4 ⟨⟨v,rfl,hV⟩,k4⟩;clear CI;have s4:=k4.size;obtain ⟨er,her⟩:∃ er,(it i).1=er:=⟨_,rfl⟩;rw [her] at hV ⊢;by_cases hr:er=0
    · subst hr
      have HV:=hV.out rfl;have HS:Hid (stM it (i+1)=(0,(stM it i).2++[(it i).2])):=stM_ok HZ.out her;clear hV her;obtain ⟨xs,hor,he⟩:=hrow;have HO:Hid (wr.ownsRow u.heap.size 63 6 (.slice b3 i d3) i xs):=hor;have HE:Hid (∀ j,j<i→ElI LA (stM it (i+1)).2 (FrR u.heap.size wr (.slice b3 i d3)) wr (cellsOf xs 6 j) j):=fun j hj=>by
       rw [HS.out];exact elI_snoc (by rw [stM_len i HZ.out];exact hj) (he j hj)
      have HN2:Hid (ElI LA (stM it (i+1)).2 (fun g=>wr.heap.size≤g∧g<w4.heap.size) w4 (fun k=>[Value.int .u8 v.k,.bool v.b,.slice v.a1 v.n1 v.c1,.slice v.a2 v.n2 v.c2,.int .i32 v.c,.slice v.a3 v.n3 v.c3][k]?) i):=by
       have h1:=elI_it (l:=(stM it i).2) HV;rw [stM_len i HZ.out] at h1;rw [HS.out];exact h1
      clear hor he HV;have kI:=below_alloc w4 (.cells #[.int .u8 v.k,.bool v.b,.slice v.a1 v.n1 v.c1,.slice v.a2 v.n2 v.c2,.int .i32 v.c,.slice v.a3 v.n3 v.c3] 63);have BI:=boxA_new w4 #[.int .u8 v.k,.bool v.b,.slice v.a1 v.n1 v.c1,.slice v.a2 v.n2 v.c2,.int .i32 v.c,.slice v.a3 v.n3 v.c3] 63;have sI:(w4.alloc (.cells #[.int .u8 v.k,.bool v.b,.slice v.a1 v.n1 v.c1,.slice v.a2 v.n2 v.c2,.int .i32 v.c,.slice v.a3 v.n3 v.c3] 63)).heap.size=w4.heap.size+1:=by simp
      have kWI:Below wr.heap.size wr (w4.alloc (.cells #[.int .u8 v.k,.bool v.b,.slice v.a1 v.n1 v.c1,.slice v.a2 v.n2 v.c2,.int .i32 v.c,.slice v.a3 v.n3 v.c3] 63)):=k4.trans (kI.mono s4);have YI:=Yr.below kWI (by omega);have i1:=BI.cell 0 rfl;have i2:=BI.cell 1 rfl;have i3:=BI.cell 2 rfl;have i4:=BI.cell 3 rfl;have i5:=BI.cell 4 rfl;have i6:=BI.cell 5 rfl;have lY5:=YI.lt;have y1':=YI.cell 1 rfl;have hyO:∀ O,((w4.alloc (.cells #[.int .u8 v.k,.bool v.b,.slice v.a1 v.n1 v.c1,.slice v.a2 v.n2 v.c2,.int .i32 v.c,.slice v.a3 v.n3 v.c3] 63)).alloc O).cell? ⟨w2.heap.size,1,none⟩=some (.slice b3 i d3):=fun O=>(YI.below (below_alloc (w4.alloc (.cells #[.int .u8 v.k,.bool v.b,.slice v.a1 v.n1 v.c1,.slice v.a2 v.n2 v.c2,.int .i32 v.c,.slice v.a3 v.n3 v.c3] 63)) O) lY5).cell 1 rfl;have s6:=kWI.size
      go_wp2_with (at_builtin;refine wpList_append_own_at _ rfl _ _ 23 rfl u.heap.size 63 i0 (.agg #[.int .u8 0,.bool false,.slice none 0 0,.slice none 0 0,.int .i32 0,.slice none 0 0]) 6 96 Tryz.underlying23 hi hz0 hz1 hz2 rfl (by decide) _ i xs rfl ((row_below HO.out kWI (Nat.le_refl _)).alloc _) ⟨w4.heap.size+1,0,none⟩ 1 1 [.int .u8 v.k,.bool v.b,.slice v.a1 v.n1 v.c1,.slice v.a2 v.n2 v.c2,.int .i32 v.c,.slice v.a3 v.n3 v.c3] rfl rfl (fun jj xx hxx=>by have hc:=cells_new (w4.alloc (.cells #[.int .u8 v.k,.bool v.b,.slice v.a1 v.n1 v.c1,.slice v.a2 v.n2 v.c2,.int .i32 v.c,.slice v.a3 v.n3 v.c3] 63)) #[.int .u8 v.k,.bool v.b,.slice v.a1 v.n1 v.c1,.slice v.a2 v.n2 v.c2,.int .i32 v.c,.slice v.a3 v.n3 v.c3] 63 jj xx hxx;rw [World.size_alloc] at hc;exact hc) (by intro x hx;simp at hx;rcases hx with rfl | rfl | rfl | rfl | rfl | rfl <;> rfl) (by unfold maxLen;omega) (by omega) (by simp only [World.size_alloc];omega) ?_)
      intro v' w7 hr hgr _ hvo;obtain ⟨b4,d4,rfl⟩:=row_form3 hr;have nY:(Value.slice b3 i d3).ownBlock≠some w2.heap.size:=fun h=>by have:=(row_own HO.out _ h).1;omega
      have Y7:=boxA_grown (YI.below (below_alloc (w4.alloc (.cells #[.int .u8 v.k,.bool v.b,.slice v.a1 v.n1 v.c1,.slice v.a2 v.n2 v.c2,.int .i32 v.c,.slice v.a3 v.n3 v.c3] 63)) (.cells #[.int .u8 v.k,.bool v.b,.slice v.a1 v.n1 v.c1,.slice v.a2 v.n2 v.c2,.int .i32 v.c,.slice v.a3 v.n3 v.c3] 63)) lY5) hgr nY;have y7:=Y7.cell 1 rfl;have f7:=Y7.frozen 1;obtain ⟨t1,t2,t3,t4⟩:=row_round (o:=1) (u:=.slice b4 (i+1) d4) (news:=[.int .u8 v.k,.bool v.b,.slice v.a1 v.n1 v.c1,.slice v.a2 v.n2 v.c2,.int .i32 v.c,.slice v.a3 v.n3 v.c3]) (wc:=wr) (V:=wr) (B:=w2.heap.size) (elI_ok LA (stM it (i+1)).2) HO.out HE.out (fun _ _ _=>rfl) (Below.refl _ _) (by omega) (Nat.le_refl _) (by omega) kWI rfl (by
       have h1:=HN2.out;exact elI_ok LA (stM it (i+1)).2 _ _ _ _ _ _ _ (fun g hg=>⟨hg.1,Nat.lt_of_lt_of_le hg.2 kI.size⟩) (fun g hg=>kI.block g hg.2) (fun _ _=>rfl) h1) hr hgr (by first | (rw [World.size_alloc];exact hvo) | (rw [World.size_alloc,World.size_alloc];exact hvo) | simpa using hvo)
      have T1:Hid (RowOf 63 6 (ElI LA (stM it (i+1)).2) u.heap.size (w7.setCell ⟨w2.heap.size,1,none⟩ (.slice b4 (i+1) d4)) (.slice b4 (i+1) d4) (i+1)):=t1;have HK7:Hid (∀ g,g<u.heap.size→g≠w2.heap.size→(w7.setCell ⟨w2.heap.size,1,none⟩ (.slice b4 (i+1) d4)).heap[g]? = u.heap[g]?):=fun g h1 h3=>by
       rw [t4 g h1 h3];exact HK.out g h1 h3
      have kr7:Below w.heap.size w (w7.setCell ⟨w2.heap.size,1,none⟩ (.slice b4 (i+1) d4)):=⟨t2.os.trans kr.os,t2.tape.trans kr.tape,t2.output.trans kr.output,Nat.le_trans kr.size t2.size,fun g h1=>by rw [t4 g (by omega) (by omega)];exact kr.block g h1⟩;have Y8:=boxA_s1 Y7 (.slice b4 (i+1) d4);have HZ':Hid ((stM it (i+1)).1=0):=by rw [HS.out];rfl
      clear t1 t4 hr hgr hvo HS HN2 HE HO HZ;go_wp2
      go_roundw
      case rel=>exact ⟨i+1,b4,d4,by go_num,by omega,HZ',Y8,T1.out,kr7,t3,HK7⟩
      case measure=>simp [intOf];omega
    · have HS:Hid ((thruM m (LA+1) t)=(er,tr0)):=by
       have h1:=stM_no HZ.out (show (it i).1≠0 by rw [her];exact hr);have h2:stM it n=((it i).1,[]):=by
        rw [← h1];exact stM_to (by rw [h1,her];exact hr) (by omega)
       have h3:=HR.out;rw [h2,if_neg (by rw [her];exact hr),her] at h3;exact h3
      have kI:=below_alloc w4 (.cells #[.int .u8 v.k,.bool v.b,.slice v.a1 v.n1 v.c1,.slice v.a2 v.n2 v.c2,.int .i32 v.c,.slice v.a3 v.n3 v.c3] 63);have sI:(w4.alloc (.cells #[.int .u8 v.k,.bool v.b,.slice v.a1 v.n1 v.c1,.slice v.a2 v.n2 v.c2,.int .i32 v.c,.slice v.a3 v.n3 v.c3] 63)).heap.size=w4.heap.size+1:=by simp
      have kWI:Below wr.heap.size wr (w4.alloc (.cells #[.int .u8 v.k,.bool v.b,.slice v.a1 v.n1 v.c1,.slice v.a2 v.n2 v.c2,.int .i32 v.c,.slice v.a3 v.n3 v.c3] 63)):=k4.trans (kI.mono s4);have R4:=Rr.below kWI (by omega);have r0:=R4.cell 0 rfl;have r1:=R4.cell 1 rfl;have f0:=R4.frozen 0;have f1:=R4.frozen 1;have Q:=boxA_s1 (boxA_s0 R4 (.slice none 0 0)) (.slice none 0 0);have j0:=Q.cell 0 rfl;have j1:=Q.cell 1 rfl;have kr4:=kr.trans (kWI.mono kr.size);clear hV hrow HZ;go_wp2
      refine bodyPost_ret (v:=.tuple #[.agg #[.slice none 0 0,.slice none 0 0],.int .i64 er]) (by simp [results,Tryz.results27,go_sem,j0,j1,r0,r1]) rfl ?_;rw [HS.out];exact ⟨⟨none,0,0,none,0,0,rfl,fun h=>absurd h hr,fun _=>⟨rfl,rfl,rfl,rfl,rfl,rfl⟩⟩,Below.set2 kr4 (by omega) _ _⟩
  · obtain rfl:i=n:=by omega
    have r0:=Rr.cell 0 rfl;have r1:=Rr.cell 1 rfl;have f0:=Rr.frozen 0;have f1:=Rr.frozen 1;have y0:=Yr.cell 0 rfl;have y1':=Yr.cell 1 rfl;have HS:Hid ((thruM m (LA+1) t)=(0,arrT sh (stM it i).2)):=by
     have h3:=HR.out;rw [if_pos HZ.out] at h3;exact h3
    have HLn:Hid ((stM it i).2.length=i):=stM_len i HZ.out;go_wp2
    have Q:=boxA_s1 (boxA_s0 Rr (.slice x5 sh.length y5)) (.slice b3 i d3);have j0:=Q.cell 0 rfl;have j1:=Q.cell 1 rfl;refine bodyPost_ret (v:=.tuple #[.agg #[.slice x5 sh.length y5,.slice b3 i d3],.int .i64 0]) (by simp [results,Tryz.results27,go_sem,j0,j1]) rfl ?_;have hB:Below w.heap.size w ((wr.setCell ⟨w.heap.size+1,0,none⟩ (.slice x5 sh.length y5)).setCell ⟨w.heap.size+1,1,none⟩ (.slice b3 i d3)):=Below.set2 kr (by omega) _ _;rw [HS.out];refine ⟨⟨x5,sh.length,y5,b3,i,d3,rfl,fun _=>⟨HN.out.imp ?_ ?_,?_⟩,fun h=>absurd rfl h⟩,hB⟩
    · rintro g ⟨q1,q2⟩;exact ⟨by omega,by rw [set1_size,set1_size];omega⟩
    · rintro g ⟨q1,q2⟩;rw [set1_other (by show ¬ w.heap.size+1=g;omega),set1_other (by show ¬ w.heap.size+1=g;omega)];exact HK.out g (by omega) (by omega)
    · have hb:=rowB_I (D:=Fr w.heap.size ((wr.setCell ⟨w.heap.size+1,0,none⟩ (.slice x5 sh.length y5)).setCell ⟨w.heap.size+1,1,none⟩ (.slice b3 i d3)).heap.size) ((hrow.setCell (elI_ok _ _) (a:=⟨w.heap.size+1,0,none⟩) (by show w.heap.size+1<_;omega) (.slice x5 sh.length y5)).setCell (elI_ok _ _) (a:=⟨w.heap.size+1,1,none⟩) (by show w.heap.size+1<_;omega) (.slice b3 i d3)) (fun g q1 q2=>⟨by omega,q2⟩)
      have e:(arrT sh (stM it i).2).kids.length=i:=HLn.out;rw [e];exact hb
end
theorem toldM_er (mk:Tr→Tr) (r:Int×Tr):(toldM mk r).1=r.1:=by
 unfold toldM;by_cases h:r.1=0
 · rw [if_pos h,h]
 · rw [if_neg h]
theorem itRM_told {Z L:Nat} {mk:Tr→Tr} {er:Int} {T:Tr} {e:Ending} {w':World} (v:IV) (he:e=.returned (.tuple #[.agg #[.int .u8 v.k,.bool v.b,.slice v.a1 v.n1 v.c1,.slice v.a2 v.n2 v.c2,.int .i32 v.c,.slice v.a3 v.n3 v.c3],.int .i64 er])) (h:er=0→IsIt L (Fr Z w'.heap.size) w' v (mk T)):ItRM Z L (toldM mk (er,T)) e w':=by
 refine ⟨v,by rw [toldM_er];exact he,fun h0 => ?_⟩;rw [toldM_er] at h0;replace h0:er=0:=h0;unfold toldM;rw [if_pos h0];exact h h0
section
variable {m:Mo} {L:Nat} {w:World} {b:Bool} {a1 a2 a3:Option Addr} {m1 c1 m2 c2 n3 c3 gb ob:Nat} {c:Int}
theorem throughItemM_char:Calls Tryz.prog 64 #[.func (.func m.kf) #[] #[],.agg #[.int .u8 2,.bool b,.slice a1 m1 c1,.slice a2 m2 c2,.int .i32 c,.slice a3 n3 c3]] w fun e w'=>ItRM w.heap.size L (3,tr0) e w'∧Below w.heap.size w w':=by
 have k1:=below_alloc w (.cells #[.int .u8 2,.bool b,.slice a1 m1 c1,.slice a2 m2 c2,.int .i32 c,.slice a3 n3 c3] 63);have k2:=below_alloc (w.alloc (.cells #[.int .u8 2,.bool b,.slice a1 m1 c1,.slice a2 m2 c2,.int .i32 c,.slice a3 n3 c3] 63)) (.cells #[.int .u8 0,.bool false,.slice none 0 0,.slice none 0 0,.int .i32 0,.slice none 0 0] 63);have g:Below w.heap.size w ((w.alloc (.cells #[.int .u8 2,.bool b,.slice a1 m1 c1,.slice a2 m2 c2,.int .i32 c,.slice a3 n3 c3] 63)).alloc (.cells #[.int .u8 0,.bool false,.slice none 0 0,.slice none 0 0,.int .i32 0,.slice none 0 0] 63)):=k1.trans (k2.mono (by simp));have Xb:=(boxA_new w #[.int .u8 2,.bool b,.slice a1 m1 c1,.slice a2 m2 c2,.int .i32 c,.slice a3 n3 c3] 63).below k2 (by simp);have R:=boxA_new (w.alloc (.cells #[.int .u8 2,.bool b,.slice a1 m1 c1,.slice a2 m2 c2,.int .i32 c,.slice a3 n3 c3] 63)) #[.int .u8 0,.bool false,.slice none 0 0,.slice none 0 0,.int .i32 0,.slice none 0 0] 63;rw [World.size_alloc] at R;have sz:((w.alloc (.cells #[.int .u8 2,.bool b,.slice a1 m1 c1,.slice a2 m2 c2,.int .i32 c,.slice a3 n3 c3] 63)).alloc (.cells #[.int .u8 0,.bool false,.slice none 0 0,.slice none 0 0,.int .i32 0,.slice none 0 0] 63)).heap.size=w.heap.size+1+1:=by simp
 have x0:=Xb.cell 0 rfl;clear k1 k2 Xb;go_enter Tryz.func64,Tryz.ntmps64
 go_wp2_with fail
 generalize hA:((w.alloc (.cells #[.int .u8 2,.bool b,.slice a1 m1 c1,.slice a2 m2 c2,.int .i32 c,.slice a3 n3 c3] 63)).alloc (.cells #[.int .u8 0,.bool false,.slice none 0 0,.slice none 0 0,.int .i32 0,.slice none 0 0] 63))=v at *;have R3:=R;have j0:=R3.cell 0 rfl;have j1:=R3.cell 1 rfl;have j2:=R3.cell 2 rfl;have j3:=R3.cell 3 rfl;have j4:=R3.cell 4 rfl;have j5:=R3.cell 5 rfl;go_wp2
 refine bodyPost_ret (v:=.tuple #[.agg #[.int .u8 0,.bool false,.slice none 0 0,.slice none 0 0,.int .i32 0,.slice none 0 0],.int .i64 3]) (by simp [results,Tryz.results64,go_sem,j0,j1,j2,j3,j4,j5]) rfl ?_;exact ⟨⟨iv0,rfl,fun h=>absurd (show (3:Int)=0 from h) (by decide)⟩,g⟩
theorem throughItemM_num {kf:Nat} {er:Int} {T:Tr} (HN:∀ args w,Sem.run Tryz.prog (callFunc kf args) w=.ok (.enter kf args) w) (HC:Hid (∀ v,Below w.heap.size w v→Calls Tryz.prog kf #[.agg #[.bool b,.slice a1 m1 c1,.slice a2 m2 c2]] v fun e w'=>NumE v.heap.size er (fun b ns ds=>er=0→numT b ns ds=T) e w'∧Below v.heap.size v w')) :
    Calls Tryz.prog 64 #[.func (.func kf) #[] #[],.agg #[.int .u8 1,.bool b,.slice a1 m1 c1,.slice a2 m2 c2,.int .i32 c,.slice a3 n3 c3]] w fun e w'=>ItRM w.heap.size L (toldM id (er,T)) e w'∧Below w.heap.size w w':=by
 have k1:=below_alloc w (.cells #[.int .u8 1,.bool b,.slice a1 m1 c1,.slice a2 m2 c2,.int .i32 c,.slice a3 n3 c3] 63);have k2:=below_alloc (w.alloc (.cells #[.int .u8 1,.bool b,.slice a1 m1 c1,.slice a2 m2 c2,.int .i32 c,.slice a3 n3 c3] 63)) (.cells #[.int .u8 0,.bool false,.slice none 0 0,.slice none 0 0,.int .i32 0,.slice none 0 0] 63);have g:Below w.heap.size w ((w.alloc (.cells #[.int .u8 1,.bool b,.slice a1 m1 c1,.slice a2 m2 c2,.int .i32 c,.slice a3 n3 c3] 63)).alloc (.cells #[.int .u8 0,.bool false,.slice none 0 0,.slice none 0 0,.int .i32 0,.slice none 0 0] 63)):=k1.trans (k2.mono (by simp));have Xb:=(boxA_new w #[.int .u8 1,.bool b,.slice a1 m1 c1,.slice a2 m2 c2,.int .i32 c,.slice a3 n3 c3] 63).below k2 (by simp);have R:=boxA_new (w.alloc (.cells #[.int .u8 1,.bool b,.slice a1 m1 c1,.slice a2 m2 c2,.int .i32 c,.slice a3 n3 c3] 63)) #[.int .u8 0,.bool false,.slice none 0 0,.slice none 0 0,.int .i32 0,.slice none 0 0] 63;rw [World.size_alloc] at R;have sz:((w.alloc (.cells #[.int .u8 1,.bool b,.slice a1 m1 c1,.slice a2 m2 c2,.int .i32 c,.slice a3 n3 c3] 63)).alloc (.cells #[.int .u8 0,.bool false,.slice none 0 0,.slice none 0 0,.int .i32 0,.slice none 0 0] 63)).heap.size=w.heap.size+1+1:=by simp
 have x0:=Xb.cell 0 rfl;have x1:=Xb.cell 1 rfl;have x2:=Xb.cell 2 rfl;have x3:=Xb.cell 3 rfl;clear k1 k2 Xb;have C1:=HC.out _ g;go_enter Tryz.func64,Tryz.ntmps64
 go_wp2_with fail
 generalize hA:((w.alloc (.cells #[.int .u8 1,.bool b,.slice a1 m1 c1,.slice a2 m2 c2,.int .i32 c,.slice a3 n3 c3] 63)).alloc (.cells #[.int .u8 0,.bool false,.slice none 0 0,.slice none 0 0,.int .i32 0,.slice none 0 0] 63))=v at *;clear hA x0 x1 x2 x3;refine C1.mono ?_;rintro e w1 ⟨⟨b',z1,ns,u1,z2,ds,u2,rfl,ho1,ho2,hT⟩,q1⟩;clear C1;have k3:=below_alloc w1 (.cells #[.bool b',.slice z1 ns.length u1,.slice z2 ds.length u2] 33);have Nb:=boxA_new w1 #[.bool b',.slice z1 ns.length u1,.slice z2 ds.length u2] 33;have y0:=Nb.cell 0 rfl;have y1:=Nb.cell 1 rfl;have y2:=Nb.cell 2 rfl;have g2:Below w.heap.size w (w1.alloc (.cells #[.bool b',.slice z1 ns.length u1,.slice z2 ds.length u2] 33)):=(g.trans (q1.mono g.size)).trans (k3.mono (by have:=q1.size;omega));have s1:=q1.size;have s3:(w1.alloc (.cells #[.bool b',.slice z1 ns.length u1,.slice z2 ds.length u2] 33)).heap.size=w1.heap.size+1:=by simp
 have R2:=(R.below q1 (by omega)).below k3 (by omega);have HO1:Hid (Own v.heap.size (w1.alloc (.cells #[.bool b',.slice z1 ns.length u1,.slice z2 ds.length u2] 33)) (.slice z1 ns.length u1) ns):=ho1.below k3 (Nat.le_refl _);have HO2:Hid (Own v.heap.size (w1.alloc (.cells #[.bool b',.slice z1 ns.length u1,.slice z2 ds.length u2] 33)) (.slice z2 ds.length u2) ds):=ho2.below k3 (Nat.le_refl _);clear ho1 ho2 k3
 go_wp2_with fail
 generalize hB:w1.alloc (.cells #[.bool b',.slice z1 ns.length u1,.slice z2 ds.length u2] 33)=u at *;clear hB y0 y1 y2;refine numbered5_any.mono ?_;rintro e w2 ⟨⟨V,rfl,hV⟩,q2⟩;have s2:=q2.size;have R3:=R2.below q2 (by omega);have r0:=R3.cell 0 rfl;have r1:=R3.cell 1 rfl;have r2:=R3.cell 2 rfl;have r3:=R3.cell 3 rfl;have r4:=R3.cell 4 rfl;have r5:=R3.cell 5 rfl;have f0:=R3.frozen 0;have f1:=R3.frozen 1;have f2:=R3.frozen 2;have f3:=R3.frozen 3;have f4:=R3.frozen 4;have f5:=R3.frozen 5;have R6:=R3.set6 (.int .u8 V.k) (.bool V.b) (.slice V.a1 V.n1 V.c1) (.slice V.a2 V.n2 V.c2) (.int .i32 V.c) (.slice V.a3 V.n3 V.c3);have j0:=R6.cell 0 rfl;have j1:=R6.cell 1 rfl;have j2:=R6.cell 2 rfl;have j3:=R6.cell 3 rfl;have j4:=R6.cell 4 rfl;have j5:=R6.cell 5 rfl;go_wp2
 refine bodyPost_ret (v:=.tuple #[.agg #[.int .u8 V.k,.bool V.b,.slice V.a1 V.n1 V.c1,.slice V.a2 V.n2 V.c2,.int .i32 V.c,.slice V.a3 V.n3 V.c3],.int .i64 er]) (by simp [results,Tryz.results64,go_sem,j0,j1,j2,j3,j4,j5]) rfl ?_;refine ⟨itRM_told V rfl (fun h0 => ?_),Below.set6 (g2.trans (q2.mono g2.size)) (by omega) _ _ _ _ _ _⟩;have ht:=hT.out h0;obtain rfl:=hV.out h0;have o1:=HO1.out.below q2 (by omega);have o2:=HO2.out.below q2 (by omega);have hi:IsIt L (Fr v.heap.size w2.heap.size) w2 ⟨1,b',z1,ns.length,u1,z2,ds.length,u2,0,none,0,0⟩ (numT b' ns ds):=⟨rfl,rfl,rfl,rfl,rfl,rfl,⟨RdL.of_own o1,RdL.of_own o2,⟨none,0,rfl,Nat.le_refl _,by omega,fun _=>rfl,Or.inl rfl⟩⟩⟩;rw [ht] at hi;exact (hi.set6 (by omega) _ _ _ _ _ _).imp (fun q hq=>⟨by have:=hq.1;omega,hq.2⟩) (fun _ _=>rfl)
theorem throughItemM_box {kf:Nat} {er:Int} {T:Tr} {x1 x2:Option Addr} {n1 y1 n2 y2:Nat} (lg:gb<w.heap.size) (h0:w.cell? ⟨gb,ob,none⟩=some (.slice x1 n1 y1)) (h1:w.cell? ⟨gb,ob+1,none⟩=some (.slice x2 n2 y2)) (hn3:n3=1) (HC:Hid (∀ v,Below w.heap.size w v→Calls Tryz.prog 27 #[.func (.func kf) #[] #[],.agg #[.slice x1 n1 y1,.slice x2 n2 y2]] v fun e w'=>WhR v.heap.size L (er,T) e w'∧Below v.heap.size v w')) :
    Calls Tryz.prog 64 #[.func (.func kf) #[] #[],.agg #[.int .u8 3,.bool b,.slice a1 m1 c1,.slice a2 m2 c2,.int .i32 c,.slice (some ⟨gb,ob,none⟩) n3 c3]] w fun e w'=>ItRM w.heap.size (L+1) (toldM boxT (er,T)) e w'∧Below w.heap.size w w':=by
 subst hn3;have k1:=below_alloc w (.cells #[.int .u8 3,.bool b,.slice a1 m1 c1,.slice a2 m2 c2,.int .i32 c,.slice (some ⟨gb,ob,none⟩) 1 c3] 63);have k2:=below_alloc (w.alloc (.cells #[.int .u8 3,.bool b,.slice a1 m1 c1,.slice a2 m2 c2,.int .i32 c,.slice (some ⟨gb,ob,none⟩) 1 c3] 63)) (.cells #[.int .u8 0,.bool false,.slice none 0 0,.slice none 0 0,.int .i32 0,.slice none 0 0] 63);have g:Below w.heap.size w ((w.alloc (.cells #[.int .u8 3,.bool b,.slice a1 m1 c1,.slice a2 m2 c2,.int .i32 c,.slice (some ⟨gb,ob,none⟩) 1 c3] 63)).alloc (.cells #[.int .u8 0,.bool false,.slice none 0 0,.slice none 0 0,.int .i32 0,.slice none 0 0] 63)):=k1.trans (k2.mono (by simp));have Xb:=(boxA_new w #[.int .u8 3,.bool b,.slice a1 m1 c1,.slice a2 m2 c2,.int .i32 c,.slice (some ⟨gb,ob,none⟩) 1 c3] 63).below k2 (by simp);have R:=boxA_new (w.alloc (.cells #[.int .u8 3,.bool b,.slice a1 m1 c1,.slice a2 m2 c2,.int .i32 c,.slice (some ⟨gb,ob,none⟩) 1 c3] 63)) #[.int .u8 0,.bool false,.slice none 0 0,.slice none 0 0,.int .i32 0,.slice none 0 0] 63;rw [World.size_alloc] at R;have sz:((w.alloc (.cells #[.int .u8 3,.bool b,.slice a1 m1 c1,.slice a2 m2 c2,.int .i32 c,.slice (some ⟨gb,ob,none⟩) 1 c3] 63)).alloc (.cells #[.int .u8 0,.bool false,.slice none 0 0,.slice none 0 0,.int .i32 0,.slice none 0 0] 63)).heap.size=w.heap.size+1+1:=by simp
 have x0:=Xb.cell 0 rfl;have x5:=Xb.cell 5 rfl;have b0:=(g.cell (p:=⟨gb,ob,none⟩) lg).trans h0;have b1:=(g.cell (p:=⟨gb,ob+1,none⟩) lg).trans h1;clear k1 k2 Xb h0 h1;have C1:=HC.out _ g;go_enter Tryz.func64,Tryz.ntmps64
 go_wp2_with fail
 generalize hA:((w.alloc (.cells #[.int .u8 3,.bool b,.slice a1 m1 c1,.slice a2 m2 c2,.int .i32 c,.slice (some ⟨gb,ob,none⟩) 1 c3] 63)).alloc (.cells #[.int .u8 0,.bool false,.slice none 0 0,.slice none 0 0,.int .i32 0,.slice none 0 0] 63))=v at *;clear hA x0 x5 b0 b1;refine C1.mono ?_;rintro e w1 ⟨⟨x5,n5,y5,b3,m3,d3,rfl,hv,_⟩,q1⟩;clear C1;have HV:Hid (er=0→ArV (L+1) (Fr v.heap.size w1.heap.size) w1 (.slice x5 n5 y5) (.slice b3 m3 d3) T):=hv;clear hv;have k3:=below_alloc w1 (.cells #[.slice x5 n5 y5,.slice b3 m3 d3] 25);have Nb:=boxA_new w1 #[.slice x5 n5 y5,.slice b3 m3 d3] 25;have y0:=Nb.cell 0 rfl;have y1':=Nb.cell 1 rfl;have s1:=q1.size;have g2:Below w.heap.size w (w1.alloc (.cells #[.slice x5 n5 y5,.slice b3 m3 d3] 25)):=(g.trans (q1.mono g.size)).trans (k3.mono (by omega));have s3:(w1.alloc (.cells #[.slice x5 n5 y5,.slice b3 m3 d3] 25)).heap.size=w1.heap.size+1:=by simp
 have R2:=(R.below q1 (by omega)).below k3 (by omega);have HV2:Hid (er=0→ArV (L+1) (Fr v.heap.size (w1.alloc (.cells #[.slice x5 n5 y5,.slice b3 m3 d3] 25)).heap.size) (w1.alloc (.cells #[.slice x5 n5 y5,.slice b3 m3 d3] 25)) (.slice x5 n5 y5) (.slice b3 m3 d3) T):=fun h=>ArV.imp (fun q hq=>⟨hq.1,by have:=hq.2;omega⟩) (fun q hq=>k3.block q hq.2) _ _ _ _ _ (Nat.le_refl _) (HV.out h);clear k3
 go_wp2_with fail
 generalize hB:w1.alloc (.cells #[.slice x5 n5 y5,.slice b3 m3 d3] 25)=u at *;clear hB y0 y1';refine boxed5_any.mono ?_;rintro e w2 ⟨⟨V,rfl,hV⟩,q2⟩;have s2:=q2.size;have R3:=R2.below q2 (by omega);have r0:=R3.cell 0 rfl;have r1:=R3.cell 1 rfl;have r2:=R3.cell 2 rfl;have r3:=R3.cell 3 rfl;have r4:=R3.cell 4 rfl;have r5:=R3.cell 5 rfl;have f0:=R3.frozen 0;have f1:=R3.frozen 1;have f2:=R3.frozen 2;have f3:=R3.frozen 3;have f4:=R3.frozen 4;have f5:=R3.frozen 5;have R6:=R3.set6 (.int .u8 V.k) (.bool V.b) (.slice V.a1 V.n1 V.c1) (.slice V.a2 V.n2 V.c2) (.int .i32 V.c) (.slice V.a3 V.n3 V.c3);have j0:=R6.cell 0 rfl;have j1:=R6.cell 1 rfl;have j2:=R6.cell 2 rfl;have j3:=R6.cell 3 rfl;have j4:=R6.cell 4 rfl;have j5:=R6.cell 5 rfl;go_wp2
 refine bodyPost_ret (v:=.tuple #[.agg #[.int .u8 V.k,.bool V.b,.slice V.a1 V.n1 V.c1,.slice V.a2 V.n2 V.c2,.int .i32 V.c,.slice V.a3 V.n3 V.c3],.int .i64 er]) (by simp [results,Tryz.results64,go_sem,j0,j1,j2,j3,j4,j5]) rfl ?_;refine ⟨itRM_told V rfl (fun h0 => ?_),Below.set6 (g2.trans (q2.mono g2.size)) (by omega) _ _ _ _ _ _⟩;have hA:=HV2.out h0;obtain ⟨kb,rfl,hkb,BK⟩:=hV.out h0;have hb:=isIt_box (t:=boxT T) (a:=T) rfl rfl rfl rfl rfl rfl rfl (by omega) BK hA q2;exact (hb.set6 (by omega) _ _ _ _ _ _).imp (fun q hq=>⟨by have:=hq.1;omega,hq.2⟩) (fun _ _=>rfl)
end
section
variable {m:Mo}
theorem itemM_step (hm:MoOK m) (L:Nat) (hT:∀ L',L=L'+1→ThruMOK m L'):ItemMOK m L:=by
 intro f D w a1 a2 a3 c1 c2 c3 x hD hv ok;rcases measI_cases ok with ⟨hk,hr,hc,hz⟩ | ⟨hk,_⟩ | ⟨hk,_,hc,h1,_,hM⟩
 · have e:itemM (thruM m L) m x=toldM id ((m.op x).1,(m.op x).2):=by
    unfold itemM;rw [if_neg (by omega),if_neg (by omega)]
   rw [e,hk];refine throughItemM_num (kf:=m.kf) hm.enter (fun v k => ?_);have h1:=hm.call v x.b a1 a2 x.ns x.ds c1 c2 hr ((hv.rn.imp (fun _ h=>h) (Agree.of k hD)).rd (fun q hq=>Nat.lt_of_lt_of_le (hD q hq) k.size)) ((hv.rd.imp (fun _ h=>h) (Agree.of k hD)).rd (fun q hq=>Nat.lt_of_lt_of_le (hD q hq) k.size));rw [tr_num hk hc hz] at h1;exact h1
 · have e:itemM (thruM m L) m x=(3,tr0):=by
    unfold itemM;rw [if_pos hk]
   rw [e,hk];exact throughItemM_char
 · obtain ⟨L',rfl,_⟩:=measF_some hM
   have e:itemM (thruM m (L'+1)) m x=toldM boxT ((thruM m (L'+1) (x.kids.getD 0 tr0)).1,(thruM m (L'+1) (x.kids.getD 0 tr0)).2):=by
    unfold itemM;rw [if_neg (by omega),if_pos hk]
   obtain ⟨g,o,rfl,hg,hbx⟩:=hv.bx.ptr (by omega);obtain ⟨x1,n1,y1,x2,n2,y2,e1,e2,e3⟩:=hbx 0 (by omega);rw [e,hk];refine throughItemM_box (kf:=m.kf) (L:=L') (hD g hg) (by simpa using e1) (by simpa using e2) h1 (fun v k => ?_);exact hT L' rfl f D v x1 x2 n1 y1 n2 y2 _ (fun q hq=>Nat.lt_of_lt_of_le (hD q hq) k.size) (e3.agree (Agree.of k hD)) hM
theorem thruM_levels (hm:MoOK m):∀ L,ThruMOK m L
 | 0=>throughM_all (itemM_step hm 0 (fun L' e=>by omega))
 | L+1=>throughM_all (itemM_step hm (L+1) (fun L' e=>by
     obtain rfl:L'=L:=by omega
     exact thruM_levels hm L'))
end
/-- What Monadic tells of an array. -/
noncomputable def monS (m:Mo) (t:Tr):Int×Tr:=if (measF 16 t).isSome=true then thruM m 16 t else (22,tr0)
theorem zero_monG (w:World):(zeroValue 65).run Tryz.prog w=.ok .nilFunc w:=by kernel_rfl
theorem eq_nilMG (fn:Fn) (x y:Array Value) (w:World):(binOp BinOp.eql 65 (.func fn x y) .nilFunc).run Tryz.prog w=.ok (.bool false) w:=by kernel_rfl
/-- What is handed in: an array, a right tolerance. -/
structure M5In (D:Nat→Prop) (f:Nat) (w:World) (bc:Bool) (e1 e2:Option Addr) (cn cd:List Int) (f1 f2:Nat) (x1 x2:Option Addr) (n1 y1 n2 y2:Nat) (t:Tr):Prop where
 hD:∀ g,D g→g<w.heap.size
 va:ArV f D w (.slice x1 n1 y1) (.slice x2 n2 y2) t
 rn:Rd w.heap.size w (.slice e1 cn.length f1) cn
 rd:Rd w.heap.size w (.slice e2 cd.length f2) cd
 rc:RightP bc cn cd
theorem M5In.below {D:Nat→Prop} {f:Nat} {w w':World} {bc:Bool} {e1 e2:Option Addr} {cn cd:List Int} {f1 f2:Nat} {x1 x2:Option Addr} {n1 y1 n2 y2:Nat} {t:Tr} (h:M5In D f w bc e1 e2 cn cd f1 f2 x1 x2 n1 y1 n2 y2 t) (k:Below w.heap.size w w'):M5In D f w' bc e1 e2 cn cd f1 f2 x1 x2 n1 y1 n2 y2 t:=
 ⟨fun g hg=>Nat.lt_of_lt_of_le (h.hD g hg) k.size,h.va.agree (Agree.of k h.hD),(h.rn.below k).mono k.size,(h.rd.below k).mono k.size,h.rc⟩
section
variable {D:Nat→Prop} {f:Nat} {w:World} {io pp:Int} {bc:Bool} {e1 e2:Option Addr} {cn cd:List Int} {f1 f2:Nat} {x1 x2:Option Addr} {n1 y1 n2 y2:Nat} {t:Tr} {m:Mo}
theorem monadicM_any {kf:Nat} (ekf:m.kf=kf) (hm:Hid (MoOK m)) (hgl:atKey .nilFunc m.gl tab1=.func (.func kf) #[] #[]) (hI:M5In D f w bc e1 e2 cn cd f1 f2 x1 x2 n1 y1 n2 y2 t) :
    Calls Tryz.prog 11 #[.agg #[.int .i64 io,.bool bc,.slice e1 cn.length f1,.slice e2 cd.length f2,.int .i64 pp],.int .i32 m.gl,.agg #[.slice x1 n1 y1,.slice x2 n2 y2]] w fun e w'=>WhR w.heap.size 15 (monS m t) e w'∧Below w.heap.size w w':=by
 have k1:=below_alloc w (.cells #[.int .i64 io,.bool bc,.slice e1 cn.length f1,.slice e2 cd.length f2,.int .i64 pp] 35);have k2:=below_alloc (w.alloc (.cells #[.int .i64 io,.bool bc,.slice e1 cn.length f1,.slice e2 cd.length f2,.int .i64 pp] 35)) (.cells #[.slice x1 n1 y1,.slice x2 n2 y2] 25);have k3:=below_alloc ((w.alloc (.cells #[.int .i64 io,.bool bc,.slice e1 cn.length f1,.slice e2 cd.length f2,.int .i64 pp] 35)).alloc (.cells #[.slice x1 n1 y1,.slice x2 n2 y2] 25)) (.cells #[.slice none 0 0,.slice none 0 0] 25);have k23:Below (w.alloc (.cells #[.int .i64 io,.bool bc,.slice e1 cn.length f1,.slice e2 cd.length f2,.int .i64 pp] 35)).heap.size (w.alloc (.cells #[.int .i64 io,.bool bc,.slice e1 cn.length f1,.slice e2 cd.length f2,.int .i64 pp] 35)) (((w.alloc (.cells #[.int .i64 io,.bool bc,.slice e1 cn.length f1,.slice e2 cd.length f2,.int .i64 pp] 35)).alloc (.cells #[.slice x1 n1 y1,.slice x2 n2 y2] 25)).alloc (.cells #[.slice none 0 0,.slice none 0 0] 25)):=k2.trans (k3.mono (by simp));have g:Below w.heap.size w (((w.alloc (.cells #[.int .i64 io,.bool bc,.slice e1 cn.length f1,.slice e2 cd.length f2,.int .i64 pp] 35)).alloc (.cells #[.slice x1 n1 y1,.slice x2 n2 y2] 25)).alloc (.cells #[.slice none 0 0,.slice none 0 0] 25)):=k1.trans (k23.mono (by simp));have E:=(boxA_new w #[.int .i64 io,.bool bc,.slice e1 cn.length f1,.slice e2 cd.length f2,.int .i64 pp] 35).below k23 (by simp);have X:=(boxA_new (w.alloc (.cells #[.int .i64 io,.bool bc,.slice e1 cn.length f1,.slice e2 cd.length f2,.int .i64 pp] 35)) #[.slice x1 n1 y1,.slice x2 n2 y2] 25).below k3 (by simp);have R:=boxA_new ((w.alloc (.cells #[.int .i64 io,.bool bc,.slice e1 cn.length f1,.slice e2 cd.length f2,.int .i64 pp] 35)).alloc (.cells #[.slice x1 n1 y1,.slice x2 n2 y2] 25)) #[.slice none 0 0,.slice none 0 0] 25;have sz2:((w.alloc (.cells #[.int .i64 io,.bool bc,.slice e1 cn.length f1,.slice e2 cd.length f2,.int .i64 pp] 35)).alloc (.cells #[.slice x1 n1 y1,.slice x2 n2 y2] 25)).heap.size=w.heap.size+1+1:=by simp
 have sz3:(((w.alloc (.cells #[.int .i64 io,.bool bc,.slice e1 cn.length f1,.slice e2 cd.length f2,.int .i64 pp] 35)).alloc (.cells #[.slice x1 n1 y1,.slice x2 n2 y2] 25)).alloc (.cells #[.slice none 0 0,.slice none 0 0] 25)).heap.size=w.heap.size+1+1+1:=by simp
 rw [World.size_alloc] at X;rw [sz2] at R;have HI:Hid (M5In D f w bc e1 e2 cn cd f1 f2 x1 x2 n1 y1 n2 y2 t):=hI;have HE:Hid (m.kf=kf):=ekf;have HG:Hid (atKey .nilFunc m.gl tab1=.func (.func kf) #[] #[]):=hgl;obtain ⟨gl,hgle⟩:∃ g,m.gl=g:=⟨_,rfl⟩;rw [hgle] at HG ⊢;clear k1 k2 k3 k23 hI ekf hgl hgle;go_enter Tryz.func11,Tryz.ntmps11
 go_wp2_with fail
 generalize hA:(((w.alloc (.cells #[.int .i64 io,.bool bc,.slice e1 cn.length f1,.slice e2 cd.length f2,.int .i64 pp] 35)).alloc (.cells #[.slice x1 n1 y1,.slice x2 n2 y2] 25)).alloc (.cells #[.slice none 0 0,.slice none 0 0] 25))=v at *;clear hA;refine (ofOne_any v).mono ?_;rintro e w1 ⟨rfl,hT,b1⟩;have s1:=b1.size;have hget:(Instr.lookup 66 (.map (some v.heap.size)) (.int .i32 gl) false).run Tryz.prog w1=.ok (.func (.func kf) #[] #[]) w1:=by
  rw [← HG.out];exact MapIs.get (k:=gl) Tryz.underlying66 Tryz.underlying21 (zero_monG w1) hT
 rw [sz3] at hget;have E1:=E.below b1 (by omega);have X1:=X.below b1 (by omega);have R1:=R.below b1 (by omega);have g1:Below w.heap.size w w1:=g.trans (b1.mono g.size);have HI1:=HI.out.below g1;have a0:=X1.cell 0 rfl;have a1:=X1.cell 1 rfl;clear hT;have C1:=right3_any HI1.hD HI1.va;by_cases hR:(measF 16 t).isSome=true
 · rw [hR] at C1
   have HC1:Hid (Calls Tryz.prog 13 _ w1 _):=C1;have HS:Hid (monS m t=thruM m 16 t):=by unfold Hid monS;rw [if_pos hR]
   have HR:Hid ((measF 16 t).isSome=true):=hR;have hnf:=eq_nilMG;clear C1 HI1 hR
   go_wp2_with fail
   clear hget a0 a1;refine HC1.out.mono ?_;rintro e w2 ⟨rfl,b2⟩;have s2:=b2.size;have E2:=E1.below b2 (by omega);have X2:=X1.below b2 (by omega);have R2:=R1.below b2 (by omega);have g2:Below w.heap.size w w2:=g1.trans (b2.mono g1.size);have HI2:=HI.out.below g2;have HC3:Hid (Calls Tryz.prog 26 _ w2 _):=right_rat (b:=bc) HI2.rn HI2.rd (Nat.le_refl _);have a1:=E2.cell 1 rfl;have a2:=E2.cell 2 rfl;have a3:=E2.cell 3 rfl;have HRC:Hid (RightP bc cn cd):=HI2.rc;clear HI2
   go_wp2_with fail
   clear a1 a2 a3;refine HC3.out.mono ?_;rintro e w4 ⟨⟨r,rfl,hr⟩,b4⟩;obtain rfl:=hr.2 HRC.out;clear hr;have s4:=b4.size;have X4:=X2.below b4 (by omega);have R4:=R2.below b4 (by omega);have g4:Below w.heap.size w w4:=g2.trans (b4.mono g2.size);have HI4:=HI.out.below g4;have C4:=thruM_levels hm.out 15 f D w4 x1 x2 n1 y1 n2 y2 t HI4.hD HI4.va HR.out;rw [HE.out] at C4;obtain ⟨er,T,hrT⟩:∃ er T,thruM m 16 t=(er,T):=⟨_,_,rfl⟩;rw [hrT] at C4;have HS2:Hid (monS m t=(er,T)):=HS.out.trans hrT;have HC4:Hid (Calls Tryz.prog 27 _ w4 _):=C4;clear HI4 C4 hrT;have a0:=X4.cell 0 rfl;have a1:=X4.cell 1 rfl
   go_wp2_with fail
   clear a0 a1;refine HC4.out.mono ?_;rintro e w6 ⟨⟨x5,n5,y5,b3,m3,d3,rfl,hv,hz⟩,p6⟩;have s6:=p6.size;have R6:=R4.below p6 (by omega);have HV:Hid (er=0→ArV (15+1) (Fr w4.heap.size w6.heap.size) w6 (.slice x5 n5 y5) (.slice b3 m3 d3) T):=hv;have HZ:Hid (er≠0→x5=none∧n5=0∧y5=0∧b3=none∧m3=0∧d3=0):=hz;have g6:Below w.heap.size w w6:=g4.trans (p6.mono g4.size);clear hv hz HC4;have r0:=R6.cell 0 rfl;have r1:=R6.cell 1 rfl;have f0:=R6.frozen 0;have f1':=R6.frozen 1;have Q:=boxA_s1 (boxA_s0 R6 (.slice x5 n5 y5)) (.slice b3 m3 d3);have j0:=Q.cell 0 rfl;have j1:=Q.cell 1 rfl;go_wp2
   refine bodyPost_ret (v:=.tuple #[.agg #[.slice x5 n5 y5,.slice b3 m3 d3],.int .i64 er]) (by simp [results,Tryz.results11,go_sem,j0,j1]) rfl ?_;rw [HS2.out];exact ⟨⟨x5,n5,y5,b3,m3,d3,rfl,fun h=>ArV.imp (fun q hq=>⟨by have:=hq.1;omega,by rw [set1_size,set1_size];exact hq.2⟩) (fun q hq=>by rw [set1_other (by show ¬ w.heap.size+1+1=q;have:=hq.1;omega),set1_other (by show ¬ w.heap.size+1+1=q;have:=hq.1;omega)]) _ _ _ _ _ (Nat.le_refl _) (HV.out h),HZ.out⟩,Below.set2 g6 (by omega) _ _⟩
 · have HS:Hid (monS m t=(22,tr0)):=by unfold Hid monS;rw [if_neg hR]
   replace hR:(measF 16 t).isSome=false:=by simpa using hR
   rw [hR] at C1;have HC1:Hid (Calls Tryz.prog 13 _ w1 _):=C1;have hnf:=eq_nilMG;clear C1 HI1 hR
   go_wp2_with fail
   clear hget a0 a1;refine HC1.out.mono ?_;rintro e w2 ⟨rfl,b2⟩;have s2:=b2.size;have R2:=R1.below b2 (by omega);have g2:Below w.heap.size w w2:=g1.trans (b2.mono g1.size);have r0:=R2.cell 0 rfl;have r1:=R2.cell 1 rfl;have f0:=R2.frozen 0;have f1':=R2.frozen 1;have Q:=boxA_s1 (boxA_s0 R2 (.slice none 0 0)) (.slice none 0 0);have j0:=Q.cell 0 rfl;have j1:=Q.cell 1 rfl;go_wp2
   refine bodyPost_ret (v:=.tuple #[.agg #[.slice none 0 0,.slice none 0 0],.int .i64 22]) (by simp [results,Tryz.results11,go_sem,j0,j1]) rfl ?_;rw [HS.out];exact ⟨⟨none,0,0,none,0,0,rfl,(fun h=>by cases h),fun _=>⟨rfl,rfl,rfl,rfl,rfl,rfl⟩⟩,Below.set2 g2 (by omega) _ _⟩
end
end Go.Proofs.YtmijanocljmaeaaGreat
