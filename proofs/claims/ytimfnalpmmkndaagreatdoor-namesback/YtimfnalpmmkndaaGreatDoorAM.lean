/- array.Size: how many items a shape has. -/
import Derived.Test.YtimfnalpmmkndaaGreatDoorTA
import Derived.Test.YtimfnalpmmkndaaGreatDoorKZ
set_option maxRecDepth 100000
set_option maxHeartbeats 6400000
set_option linter.unusedVariables false
set_option linter.unusedSimpArgs false
namespace Go.Proofs.YtimfnalpmmkndaaGreatDoor
section
open Go.RowKit
def prodF:List Int→Int→Option Int
 | [],s=>some s
 | n :: r,s=>if 4096<s*n then none else prodF r (s*n)
def loF (sh:List Int):Int:=sh.foldl min 1
def hiF (sh:List Int):Int:=sh.foldl max 1
def sizeF (sh:List Int):Int×Int:=
 if 8<sh.length then (0,4) else if loF sh<0 then (0,3) else if 4096<hiF sh then (0,8) else if loF sh=0 then (0,0)
 else match prodF sh 1 with | some n=>(n,0) | none=>(0,8)
theorem foldl_lo:∀ (l:List Int) (a:Int),l.foldl min a≤a∧∀ x∈l,l.foldl min a≤x
 | [],a=>⟨by simp,fun x h=>by cases h⟩
 | y :: l,a=>by
  have h:=foldl_lo l (min a y);rw [List.foldl_cons];refine ⟨by omega,fun x hx => ?_⟩;rcases List.mem_cons.1 hx with rfl | hx
  · omega
  · exact h.2 x hx
theorem foldl_hi:∀ (l:List Int) (a:Int),a≤l.foldl max a∧∀ x∈l,x≤l.foldl max a
 | [],a=>⟨by simp,fun x h=>by cases h⟩
 | y :: l,a=>by
  have h:=foldl_hi l (max a y);rw [List.foldl_cons];refine ⟨by omega,fun x hx => ?_⟩;rcases List.mem_cons.1 hx with rfl | hx
  · omega
  · exact h.2 x hx
theorem take_fold {f:Int→Int→Int} {l:List Int} {i:Nat} (h:i<l.length) (a:Int):(l.take (i+1)).foldl f a=f ((l.take i).foldl f a) (l.getD i 0):=by
 rw [← List.take_append_getElem h,List.foldl_append];simp [List.getD,h]
theorem mulLen {s n:Int} (h1:1≤s) (h2:s≤4096) (h3:1≤n) (h4:n≤4096):1≤s*n∧s*n≤16777216:=by
 have a1:s*n≤4096*n:=Int.mul_le_mul_of_nonneg_right h2 (by omega);have a2:1*n≤s*n:=Int.mul_le_mul_of_nonneg_right h1 (by omega);omega
theorem prodF_in:∀ (l:List Int) (s n:Int),1≤s→s≤4096→(∀ x∈l,1≤x∧x≤4096)→prodF l s=some n→1≤n∧n≤4096
 | [],s,n,h1,h2,_,h=>by rw [prodF] at h;cases h;exact ⟨h1,h2⟩
 | x :: l,s,n,h1,h2,hl,h=>by
  rw [prodF] at h;have hx:=hl x (by simp);have hb:=mulLen h1 h2 hx.1 hx.2;by_cases hc:4096<s*x
  · rw [if_pos hc] at h;cases h
  · rw [if_neg hc] at h
    exact prodF_in l _ n hb.1 (by omega) (fun y hy=>hl y (by simp [hy])) h
theorem sizeF_in (sh:List Int):0≤(sizeF sh).1∧(sizeF sh).1≤4096:=by
 unfold sizeF
 split
 · exact ⟨by decide,by decide⟩
 split
 · exact ⟨by decide,by decide⟩
 split
 · exact ⟨by decide,by decide⟩
 split
 · exact ⟨by decide,by decide⟩
 · rename_i h1 h2 h3 h4
   have hlo:=foldl_lo sh 1;have hhi:=foldl_hi sh 1
   cases hp:prodF sh 1 with
   | none=>exact ⟨by decide,by decide⟩
   | some n=>
    have:=prodF_in sh 1 n (by omega) (by omega) (fun x hx=>by
     have a:=hlo.2 x hx;have b:=hhi.2 x hx;unfold loF at h2 h4;unfold hiF at h3;omega) hp
    exact ⟨by simp;omega,by simp;omega⟩
section
variable {D:Nat→Prop} {w:World} {a:Option Addr} {c:Nat} {sh:List Int}
theorem lengths_any (h:RdN D w (.slice a sh.length c) sh) (hD:∀ g,D g→g<w.heap.size) (hin:∀ x∈sh,1≤x∧x≤4096) :
    Calls Tryz.prog 146 #[.slice a sh.length c] w fun e w'=>(∃ n,prodF sh 1=some n∧e=.returned (.tuple #[.int .i64 n,.int .i64 0])∧w'=w)∨(prodF sh 1=none∧e=.returned (.tuple #[.int .i64 0,.int .i64 8])∧w'=w):=by
 have bd:=h.bounds;have HH:Hid (RdN D w (.slice a sh.length c) sh):=h;have HIN:Hid (∀ x∈sh,1≤x∧x≤4096):=hin;clear h hin;go_enter Tryz.func146,Tryz.ntmps146;go_wp2
 go_loopw [4,9] (fun sv iv wr=>∃ (i:Nat) (S:Int),sv=.int .i64 S∧iv=.int .i64 i∧i≤sh.length∧1≤S∧S≤4096∧Hid (prodF sh 1=prodF (sh.drop i) S)∧wr=w) (fun _ iv _=>sh.length - (intOf iv).toNat)
 case atStart=>exact ⟨0,1,rfl,rfl,Nat.zero_le _,by omega,by omega,rfl,rfl⟩
 case round=>
  obtain ⟨i,S,rfl,rfl,hil,h1,h2,HP,hwr⟩:=hrel;subst hwr;by_cases hlt:i<sh.length
  · obtain ⟨g,o,rfl,hg,hc⟩:=HH.out.ptr (by omega)
    have q:=hc i hlt;have hx:=HIN.out (sh.getD i 0) (by simp [List.getD,hlt]);have HQ:Hid (prodF (sh.drop i) S=if 4096<S*sh.getD i 0 then none else prodF (sh.drop (i+1)) (S*sh.getD i 0)):=by
     unfold Hid;rw [List.drop_eq_getElem_cons hlt,prodF];simp [List.getD,hlt]
    clear hc;generalize sh.getD i 0=X at *;have hb:=mulLen h1 h2 hx.1 hx.2;by_cases hbig:4096<S*X
    · have HN:Hid (prodF sh 1=none):=by unfold Hid;rw [HP.out,HQ.out,if_pos hbig]
      go_wp2
      go_ret2
      exact Or.inr ⟨HN.out,rfl,rfl⟩
    · have HN:Hid (prodF sh 1=prodF (sh.drop (i+1)) (S*X)):=by unfold Hid;rw [HP.out,HQ.out,if_neg hbig]
      go_wp2
      go_roundw
      case rel=>exact ⟨i+1,S*X,by go_num,by go_num,by omega,hb.1,by omega,HN,(by first | rfl | trivial)⟩
      case measure=>simp [intOf];omega
  · have HN:Hid (prodF sh 1=some S):=by
     unfold Hid;rw [HP.out,List.drop_eq_nil_of_le (by omega),prodF]
    go_wp2
    go_ret2
    exact Or.inl ⟨S,HN.out,rfl,rfl⟩
theorem arrSize_any (h:RdN D w (.slice a sh.length c) sh) (hD:∀ g,D g→g<w.heap.size) :
    Calls Tryz.prog 108 #[.slice a sh.length c] w fun e w'=>e=.returned (.tuple #[.int .i64 (sizeF sh).1,.int .i64 (sizeF sh).2])∧w'=w:=by
 have bd:=h.bounds;have HH:Hid (RdN D w (.slice a sh.length c) sh):=h;have HD:Hid (∀ g,D g→g<w.heap.size):=hD;clear h hD;go_enter Tryz.func108,Tryz.ntmps108;by_cases h8:8<sh.length
 · have HF:Hid (sizeF sh=(0,4)):=by unfold Hid sizeF;rw [if_pos h8]
   go_wp2
   go_ret2
   exact ⟨by rw [HF.out];rfl,rfl⟩
 go_wp2
 go_loopw [4,5,13] (fun lv hv iv wr=>∃ (i:Nat) (lo hi:Int),lv=.int .i64 lo∧hv=.int .i64 hi∧iv=.int .i64 i∧i≤sh.length∧Hid (lo=(sh.take i).foldl min 1)∧Hid (hi=(sh.take i).foldl max 1)∧wr=w) (fun _ _ iv _=>sh.length - (intOf iv).toNat)
 case atStart=>exact ⟨0,1,1,rfl,rfl,rfl,Nat.zero_le _,rfl,rfl,rfl⟩
 case round=>
  obtain ⟨i,lo,hi,rfl,rfl,rfl,hil,HL,HI,hwr⟩:=hrel;subst hwr;by_cases hlt:i<sh.length
  · obtain ⟨g,o,rfl,hg,hc⟩:=HH.out.ptr (by omega)
    have q:=hc i hlt;have HL2:Hid (min lo (sh.getD i 0)=(sh.take (i+1)).foldl min 1):=by unfold Hid;rw [take_fold hlt,HL.out]
    have HI2:Hid (max hi (sh.getD i 0)=(sh.take (i+1)).foldl max 1):=by unfold Hid;rw [take_fold hlt,HI.out]
    clear hc;generalize sh.getD i 0=X at *;go_wp2
    go_roundw
    case rel=>exact ⟨i+1,min lo X,max hi X,rfl,rfl,by go_num,by omega,HL2,HI2,(by first | rfl | trivial)⟩
    case measure=>simp [intOf];omega
  · have hlo:lo=loF sh:=by rw [HL.out,List.take_of_length_le (by omega)];rfl
    have hhi:hi=hiF sh:=by rw [HI.out,List.take_of_length_le (by omega)];rfl
    have HLO:Hid (lo=loF sh):=hlo;have HHI:Hid (hi=hiF sh):=hhi;clear hlo hhi HL HI;by_cases c1:lo<0
    · have HF:Hid (sizeF sh=(0,3)):=by unfold Hid sizeF;rw [if_neg h8,if_pos (by rw [← HLO.out];exact c1)]
      go_wp2
      go_ret2
      exact ⟨by rw [HF.out];rfl,rfl⟩
    by_cases c2:4096<hi
    · have HF:Hid (sizeF sh=(0,8)):=by unfold Hid sizeF;rw [if_neg h8,if_neg (by rw [← HLO.out];exact c1),if_pos (by rw [← HHI.out];exact c2)]
      go_wp2
      go_ret2
      exact ⟨by rw [HF.out];rfl,rfl⟩
    by_cases c3:lo=0
    · have HF:Hid (sizeF sh=(0,0)):=by unfold Hid sizeF;rw [if_neg h8,if_neg (by rw [← HLO.out];exact c1),if_neg (by rw [← HHI.out];exact c2),if_pos (by rw [← HLO.out];exact c3)]
      go_wp2
      go_ret2
      exact ⟨by rw [HF.out];rfl,rfl⟩
    have HF:Hid (sizeF sh=match prodF sh 1 with | some n=>(n,0) | none=>(0,8)):=by unfold Hid sizeF;rw [if_neg h8,if_neg (by rw [← HLO.out];exact c1),if_neg (by rw [← HHI.out];exact c2),if_neg (by rw [← HLO.out];exact c3)]
    have HIN:Hid (∀ x∈sh,1≤x∧x≤4096):=fun x hx=>by
     have a1:=(foldl_lo sh 1).2 x hx;have a2:=(foldl_hi sh 1).2 x hx;have a3:=HLO.out;have a4:=HHI.out;unfold loF at a3;unfold hiF at a4;omega
    go_wp2_with fail
    refine (lengths_any HH.out HD.out HIN.out).mono ?_;rintro e w1 (⟨n,hn,rfl,rfl⟩ | ⟨hn,rfl,rfl⟩)
    · go_wp2
      go_ret2
      exact ⟨by rw [HF.out,hn];rfl,rfl⟩
    · go_wp2
      go_ret2
      exact ⟨by rw [HF.out,hn];rfl,rfl⟩
end
def okR (c:Int):Prop:=(0≤c∧c<55296)∨(57343<c∧c≤1114111)
def noneB (t:Tr):Bool:=!t.b && decide (t.ns.length=0) && decide (t.ds.length=0)
def simpB (t:Tr):Bool:=decide (t.ns.length=0) && decide (t.kids.length=1) && (decide ((t.kids.getD 0 tr0).k=1) || decide ((t.kids.getD 0 tr0).k=2))
open Classical in
noncomputable def measI (M:Tr→Option (Int×Int)) (t:Tr):Option (Int×Int):=
 if t.k=1 then (if RightP t.b t.ns t.ds∧t.c=0∧t.kids.length=0 then some (0,0) else none)
 else if t.k=2 then (if okR t.c∧noneB t=true∧t.kids.length=0 then some (0,0) else none)
 else if t.k=3 then (if noneB t=true∧t.c=0∧t.kids.length=1∧simpB (t.kids.getD 0 tr0)=false then M (t.kids.getD 0 tr0) else none)
 else none
def measL (I:Tr→Option (Int×Int)):List Tr→Int×Int→Option (Int×Int)
 | [],w=>some w
 | t :: r,w=>match I t with
  | none=>none
  | some p=>if 16384<w.2+p.2 then none else measL I r (max w.1 (1+p.1),w.2+p.2)
noncomputable def measF:Nat→Tr→Option (Int×Int)
 | 0,_=>none
 | L+1,t=>if (sizeF t.ns).2=0∧(t.kids.length:Int)=max (sizeF t.ns).1 1 then
     (match measL (measI (measF L)) t.kids (1,(t.kids.length:Int)) with
      | none=>none
      | some p=>some (if simpB t=true then 0 else p.1,p.2)) else none
def mEnd (o:Option (Int×Int)):Ending:=.returned (.tuple #[.agg #[.int .i64 (o.getD (0,0)).1,.int .i64 (o.getD (0,0)).2],.bool o.isSome])
theorem isNone_any (b:Bool) (a1:Option Addr) (n1 c1:Nat) (a2:Option Addr) (n2 c2:Nat) (w:World) (h1:n1≤9223372036854775807) (h2:n2≤9223372036854775807) :
    Calls Tryz.prog 149 #[.agg #[.bool b,.slice a1 n1 c1,.slice a2 n2 c2]] w fun e w'=>e=.returned (.bool (!b && decide (n1=0) && decide (n2=0)))∧w'=w.alloc (.cells #[.bool b,.slice a1 n1 c1,.slice a2 n2 c2] 110):=by
 have X:=boxA_new w #[.bool b,.slice a1 n1 c1,.slice a2 n2 c2] 110;have x0:=X.cell 0 rfl;have x1:=X.cell 1 rfl;have x2:=X.cell 2 rfl;go_enter Tryz.func149,Tryz.ntmps149
 cases b with
 | true=>
  go_wp2
  go_ret
  exact ⟨rfl,rfl⟩
 | false=>
  by_cases e1:n1=0
  · have d1:((n1:Int)==0)=true:=by rw [beq_iff_eq];omega
    by_cases e2:n2=0
    · have d2:((n2:Int)==0)=true:=by rw [beq_iff_eq];omega
      have HQ:Hid ((!false && decide (n1=0) && decide (n2=0))=true):=by unfold Hid;rw [decide_eq_true e1,decide_eq_true e2];rfl
      clear e1 e2;go_wp2
      go_ret
      exact ⟨by rw [HQ.out];rfl,rfl⟩
    · have d2:((n2:Int)==0)=false:=by rw [beq_eq_false_iff_ne];omega
      have HQ:Hid ((!false && decide (n1=0) && decide (n2=0))=false):=by unfold Hid;rw [decide_eq_true e1,decide_eq_false e2];rfl
      clear e1 e2;go_wp2
      go_ret
      exact ⟨by rw [HQ.out];rfl,rfl⟩
  · have d1:((n1:Int)==0)=false:=by rw [beq_eq_false_iff_ne];omega
    have HQ:Hid ((!false && decide (n1=0) && decide (n2=0))=false):=by unfold Hid;rw [decide_eq_false e1];rfl
    clear e1;go_wp2
    go_ret
    exact ⟨by rw [HQ.out];rfl,rfl⟩
theorem isSimpleT_any {D:Nat→Prop} {f:Nat} {W:World} {x1:Option Addr} {n1 y1:Nat} {x2:Option Addr} {n2 y2:Nat} {t:Tr} (h:ArV (f+1) D W (.slice x1 n1 y1) (.slice x2 n2 y2) t) (hD:∀ g,D g→g<W.heap.size) :
    Calls Tryz.prog 110 #[.agg #[.slice x1 n1 y1,.slice x2 n2 y2]] W fun e w'=>e=.returned (.bool (simpB t))∧w'=W.alloc (.cells #[.slice x1 n1 y1,.slice x2 n2 y2] 29):=by
 obtain rfl:=h.1.len;obtain rfl:=h.2.len;have bd1:=h.1.bounds;have bd2:=h.2.bounds;have X:=boxA_new W #[.slice x1 t.ns.length y1,.slice x2 t.kids.length y2] 29;have k:=below_alloc W (.cells #[.slice x1 t.ns.length y1,.slice x2 t.kids.length y2] 29);have p0:=X.cell 0 rfl;have p1:=X.cell 1 rfl;go_enter Tryz.func110,Tryz.ntmps110;by_cases e1:t.ns.length=0
 · have d1:((t.ns.length:Int)==0)=true:=by rw [beq_iff_eq];omega
   by_cases e2:t.kids.length=1
   · have d2:((t.kids.length:Int)==1)=true:=by rw [beq_iff_eq];omega
     obtain ⟨g,o,rfl,hg,hc⟩:=h.2.ptr (by omega);obtain ⟨a1,c1,a2,c2,a3,c3,⟨z0,_⟩,_⟩:=hc 0 (by omega);rw [Nat.zero_mul,Nat.add_zero] at z0;have q0:=(k.cell (p:=⟨g,o,none⟩) (hD g hg)).trans z0;have HQ:Hid (simpB t=(decide ((t.kids.getD 0 tr0).k=1) || decide ((t.kids.getD 0 tr0).k=2))):=by unfold Hid simpB;rw [decide_eq_true e1,decide_eq_true e2];rfl
     have hpos:0<t.kids.length:=by omega
     clear h hc z0 e1 e2;generalize (t.kids.getD 0 tr0).k=K at *;by_cases k1:K=1
     · have d3:(K==1)=true:=by rw [beq_iff_eq];exact k1
       have HR:Hid (simpB t=true):=by unfold Hid;rw [HQ.out,decide_eq_true k1];rfl
       clear k1 HQ;go_wp2
       go_ret
       exact ⟨by rw [HR.out];rfl,rfl⟩
     · have d3:(K==1)=false:=by rw [beq_eq_false_iff_ne];exact k1
       by_cases k2:K=2
       · have d4:(K==2)=true:=by rw [beq_iff_eq];exact k2
         have HR:Hid (simpB t=true):=by unfold Hid;rw [HQ.out,decide_eq_false k1,decide_eq_true k2];rfl
         clear k1 k2 HQ;go_wp2
         go_ret
         exact ⟨by rw [HR.out];rfl,rfl⟩
       · have d4:(K==2)=false:=by rw [beq_eq_false_iff_ne];exact k2
         have HR:Hid (simpB t=false):=by unfold Hid;rw [HQ.out,decide_eq_false k1,decide_eq_false k2];rfl
         clear k1 k2 HQ;go_wp2
         go_ret
         exact ⟨by rw [HR.out];rfl,rfl⟩
   · have d2:((t.kids.length:Int)==1)=false:=by rw [beq_eq_false_iff_ne];omega
     have HR:Hid (simpB t=false):=by unfold Hid simpB;rw [decide_eq_true e1,decide_eq_false e2];rfl
     clear e1 e2;go_wp2
     go_ret
     exact ⟨by rw [HR.out];rfl,rfl⟩
 · have d1:((t.ns.length:Int)==0)=false:=by rw [beq_eq_false_iff_ne];omega
   have HR:Hid (simpB t=false):=by unfold Hid simpB;rw [decide_eq_false e1];rfl
   clear e1;go_wp2
   go_ret
   exact ⟨by rw [HR.out];rfl,rfl⟩
section
variable {M:Tr→Option (Int×Int)} {t:Tr}
theorem measI_num (e1:t.k=1) (h:RightP t.b t.ns t.ds∧t.c=0∧t.kids.length=0):measI M t=some (0,0):=by unfold measI;rw [if_pos e1,if_pos h]
theorem measI_num_no (e1:t.k=1) (h:¬ (RightP t.b t.ns t.ds∧t.c=0∧t.kids.length=0)):measI M t=none:=by unfold measI;rw [if_pos e1,if_neg h]
theorem measI_ch (e1:t.k=2) (h:okR t.c∧noneB t=true∧t.kids.length=0):measI M t=some (0,0):=by unfold measI;rw [if_neg (by omega),if_pos e1,if_pos h]
theorem measI_ch_no (e1:t.k=2) (h:¬ (okR t.c∧noneB t=true∧t.kids.length=0)):measI M t=none:=by unfold measI;rw [if_neg (by omega),if_pos e1,if_neg h]
theorem measI_box (e1:t.k=3) (h:noneB t=true∧t.c=0∧t.kids.length=1∧simpB (t.kids.getD 0 tr0)=false):measI M t=M (t.kids.getD 0 tr0):=by unfold measI;rw [if_neg (by omega),if_neg (by omega),if_pos e1,if_pos h]
theorem measI_box_no (e1:t.k=3) (h:¬ (noneB t=true∧t.c=0∧t.kids.length=1∧simpB (t.kids.getD 0 tr0)=false)):measI M t=none:=by unfold measI;rw [if_neg (by omega),if_neg (by omega),if_pos e1,if_neg h]
theorem measI_else (h1:¬ t.k=1) (h2:¬ t.k=2) (h3:¬ t.k=3):measI M t=none:=by unfold measI;rw [if_neg h1,if_neg h2,if_neg h3]
end
def MeasOK (L:Nat):Prop:=∀ (f:Nat) (D:Nat→Prop) (W:World) (x1:Option Addr) (n1 y1:Nat) (x2:Option Addr) (n2 y2:Nat) (t:Tr),(∀ g,D g→g<W.heap.size)→ArV f D W (.slice x1 n1 y1) (.slice x2 n2 y2) t →
 Calls Tryz.prog 76 #[.agg #[.slice x1 n1 y1,.slice x2 n2 y2],.int .i64 L] W fun e w'=>e=mEnd (measF L t)∧Below W.heap.size W w'
def TellsRune (c:Int) (e:Ending):Prop:=∃ r,e=.returned (.bool r)∧(r=true↔okR c)
theorem validRune_any (c:Int) (w:World):Calls Tryz.prog 148 #[.int .i32 c] w fun e w'=>TellsRune c e∧Below w.heap.size w w':=by
 go_enter Tryz.func148,Tryz.ntmps148;by_cases h1:0≤c
 · by_cases h2:c<55296
   · go_wp2
     go_ret
     exact ⟨⟨true,rfl,fun _=>Or.inl ⟨h1,h2⟩,fun _=>rfl⟩,Below.refl _ _⟩
   · by_cases h3:57343<c
     · by_cases h4:c≤1114111
       · go_wp2
         go_ret
         exact ⟨⟨true,rfl,fun _=>Or.inr ⟨h3,h4⟩,fun _=>rfl⟩,Below.refl _ _⟩
       · go_wp2
         go_ret
         exact ⟨⟨false,rfl,(fun h=>by cases h),fun h=>by unfold okR at h;omega⟩,Below.refl _ _⟩
     · go_wp2
       go_ret
       exact ⟨⟨false,rfl,(fun h=>by cases h),fun h=>by unfold okR at h;omega⟩,Below.refl _ _⟩
 · go_wp2
   go_ret
   exact ⟨⟨false,rfl,(fun h=>by cases h),fun h=>by unfold okR at h;omega⟩,Below.refl _ _⟩
end
section
open Go.RowKit
section
variable {D:Nat→Prop} {f:Nat} {w:World} {a1 a2 a3:Option Addr} {c1 c2 c3:Nat} {t:Tr}
theorem measuredItem_k1 {L:Nat} (e1:t.k=1) (h:ItV (ArV f D w) D w a1 c1 a2 c2 a3 c3 t) (hD:∀ g,D g→g<w.heap.size) :
    Calls Tryz.prog 109 #[.agg #[.int .u8 t.k,.bool t.b,.slice a1 t.ns.length c1,.slice a2 t.ds.length c2,.int .i32 t.c,.slice a3 t.kids.length c3],.int .i64 L] w fun e w'=>e=mEnd (measI (measF L) t)∧Below w.heap.size w w':=by
 have H:Hid (ItV (ArV f D w) D w a1 c1 a2 c2 a3 c3 t):=h;have HD:Hid (∀ g,D g→g<w.heap.size):=hD;have bd3:=h.bx.bounds;have hr1:=h.rn.rd hD;have hr2:=h.rd.rd hD;clear h hD;have X0:=boxA_new w #[.int .u8 t.k,.bool t.b,.slice a1 t.ns.length c1,.slice a2 t.ds.length c2,.int .i32 t.c,.slice a3 t.kids.length c3] 113;have k0:=below_alloc w (.cells #[.int .u8 t.k,.bool t.b,.slice a1 t.ns.length c1,.slice a2 t.ds.length c2,.int .i32 t.c,.slice a3 t.kids.length c3] 113);have k1:=below_alloc (w.alloc (.cells #[.int .u8 t.k,.bool t.b,.slice a1 t.ns.length c1,.slice a2 t.ds.length c2,.int .i32 t.c,.slice a3 t.kids.length c3] 113)) (.cells #[.int .i64 0,.int .i64 0] 132);have R:=boxA_new (w.alloc (.cells #[.int .u8 t.k,.bool t.b,.slice a1 t.ns.length c1,.slice a2 t.ds.length c2,.int .i32 t.c,.slice a3 t.kids.length c3] 113)) #[.int .i64 0,.int .i64 0] 132;rw [World.size_alloc] at R;have X:=X0.below k1 (by simp);have g:Below w.heap.size w _:=k0.trans (k1.mono (by simp));have sv:((w.alloc (.cells #[.int .u8 t.k,.bool t.b,.slice a1 t.ns.length c1,.slice a2 t.ds.length c2,.int .i32 t.c,.slice a3 t.kids.length c3] 113)).alloc (.cells #[.int .i64 0,.int .i64 0] 132)).heap.size=w.heap.size+1+1:=by simp
 replace hr1:=hr1.below g;replace hr2:=hr2.below g;have X0':=X.cell 0 rfl;have X1:=X.cell 1 rfl;have X2:=X.cell 2 rfl;have X3:=X.cell 3 rfl;have X4:=X.cell 4 rfl;have X5:=X.cell 5 rfl;have R0:=R.cell 0 rfl;have R1:=R.cell 1 rfl;have Rf0:=R.frozen 0;have Rf1:=R.frozen 1;go_enter Tryz.func109,Tryz.ntmps109;have d1:(t.k==1)=true:=by rw [beq_iff_eq];exact e1
 have H1:Hid (t.k=1):=e1;clear e1
 go_upto_region 3 with fail
 generalize hA:(w.alloc (.cells #[.int .u8 t.k,.bool t.b,.slice a1 t.ns.length c1,.slice a2 t.ds.length c2,.int .i32 t.c,.slice a3 t.kids.length c3] 113)).alloc (.cells #[.int .i64 0,.int .i64 0] 132)=v at *;clear hA k0 k1 X0;have hcells:∀ {w':World},Below v.heap.size v w'→w'.cell? ⟨w.heap.size,1,none⟩=some (.bool t.b)∧w'.cell? ⟨w.heap.size,2,none⟩=some (.slice a1 t.ns.length c1)∧w'.cell? ⟨w.heap.size,3,none⟩=some (.slice a2 t.ds.length c2)∧w'.cell? ⟨w.heap.size,4,none⟩=some (.int .i32 t.c)∧w'.cell? ⟨w.heap.size,5,none⟩=some (.slice a3 t.kids.length c3):=fun hb=>by
  have Z:=X.below hb (by omega);exact ⟨Z.cell 1 rfl,Z.cell 2 rfl,Z.cell 3 rfl,Z.cell 4 rfl,Z.cell 5 rfl⟩
 have d0:Below v.heap.size v v.drew:=⟨rfl,rfl,rfl,Nat.le_refl _,fun _ _=>rfl⟩;have h1':Rd v.drew.heap.size v.drew (.slice a1 t.ns.length c1) t.ns:=hr1.mono (by simp;omega);have h2':Rd v.drew.heap.size v.drew (.slice a2 t.ds.length c2) t.ds:=hr2.mono (by simp;omega);by_cases hR:RightP t.b t.ns t.ds
 · have HRP:Hid (RightP t.b t.ns t.ds):=hR
   clear hR;by_cases hc:t.c=0
   · have dc:(t.c==0)=true:=by rw [beq_iff_eq];exact hc
     by_cases hk:t.kids.length=0
     · have dk:((t.kids.length:Int)==0)=true:=by rw [beq_iff_eq];omega
       have HE:Hid (measI (measF L) t=some (0,0)):=measI_num H1.out ⟨HRP.out,hc,hk⟩;clear hc hk
       first | go_region_with (go_at_call 147;refine (right_rat h1' h2' (Nat.le_refl _)).mono ?_;rintro e wa ⟨⟨r,rfl,hr⟩,ka'⟩;obtain rfl:r=true:=hr.2 HRP.out;clear hr;have ka:Below v.heap.size v wa:=d0.trans (ka'.mono d0.size);obtain ⟨tw1,tw2,tw3,tw4,tw5⟩:=hcells ka;have Rc:=R.below ka (by omega);have q0:=Rc.cell 0 rfl;have q1:=Rc.cell 1 rfl;have p0:=Rc.frozen 0;have p1:=Rc.frozen 1) | fail
       all_goals
        go_wp2
        have Rd2:=Rc.set2 (.int .i64 0) (.int .i64 0);have r0:=Rd2.cell 0 rfl;have r1:=Rd2.cell 1 rfl;refine bodyPost_ret (v:=.tuple #[.agg #[.int .i64 0,.int .i64 0],.bool true]) (by simp [results,Tryz.results109,go_sem,r0,r1]) rfl ?_;exact ⟨by rw [HE.out];rfl,Below.set2 (g.trans (ka.mono (by omega))) (by omega) _ _⟩
     · have dk:((t.kids.length:Int)==0)=false:=by rw [beq_eq_false_iff_ne];omega
       have HE:Hid (measI (measF L) t=none):=measI_num_no H1.out (fun h=>hk h.2.2);clear hc hk
       first | go_region_with (go_at_call 147;refine (right_rat h1' h2' (Nat.le_refl _)).mono ?_;rintro e wa ⟨⟨r,rfl,hr⟩,ka'⟩;obtain rfl:r=true:=hr.2 HRP.out;clear hr;have ka:Below v.heap.size v wa:=d0.trans (ka'.mono d0.size);obtain ⟨tw1,tw2,tw3,tw4,tw5⟩:=hcells ka;have Rc:=R.below ka (by omega);have q0:=Rc.cell 0 rfl;have q1:=Rc.cell 1 rfl;have p0:=Rc.frozen 0;have p1:=Rc.frozen 1) | fail
       all_goals
        go_wp2
        have Rd2:=Rc.set2 (.int .i64 0) (.int .i64 0);have r0:=Rd2.cell 0 rfl;have r1:=Rd2.cell 1 rfl;refine bodyPost_ret (v:=.tuple #[.agg #[.int .i64 0,.int .i64 0],.bool false]) (by simp [results,Tryz.results109,go_sem,r0,r1]) rfl ?_;exact ⟨by rw [HE.out];rfl,Below.set2 (g.trans (ka.mono (by omega))) (by omega) _ _⟩
   · have dc:(t.c==0)=false:=by rw [beq_eq_false_iff_ne];exact hc
     have HE:Hid (measI (measF L) t=none):=measI_num_no H1.out (fun h=>hc h.2.1);clear hc
     first | go_region_with (go_at_call 147;refine (right_rat h1' h2' (Nat.le_refl _)).mono ?_;rintro e wa ⟨⟨r,rfl,hr⟩,ka'⟩;obtain rfl:r=true:=hr.2 HRP.out;clear hr;have ka:Below v.heap.size v wa:=d0.trans (ka'.mono d0.size);obtain ⟨tw1,tw2,tw3,tw4,tw5⟩:=hcells ka;have Rc:=R.below ka (by omega);have q0:=Rc.cell 0 rfl;have q1:=Rc.cell 1 rfl;have p0:=Rc.frozen 0;have p1:=Rc.frozen 1) | fail
     all_goals
      go_wp2
      have Rd2:=Rc.set2 (.int .i64 0) (.int .i64 0);have r0:=Rd2.cell 0 rfl;have r1:=Rd2.cell 1 rfl;refine bodyPost_ret (v:=.tuple #[.agg #[.int .i64 0,.int .i64 0],.bool false]) (by simp [results,Tryz.results109,go_sem,r0,r1]) rfl ?_;exact ⟨by rw [HE.out];rfl,Below.set2 (g.trans (ka.mono (by omega))) (by omega) _ _⟩
 · have HRP:Hid (¬ RightP t.b t.ns t.ds):=hR
   have HE:Hid (measI (measF L) t=none):=measI_num_no H1.out (fun h=>HRP.out h.1);clear hR
   first | go_region_with (go_at_call 147;refine (right_rat h1' h2' (Nat.le_refl _)).mono ?_;rintro e wa ⟨⟨r,rfl,hr⟩,ka'⟩;obtain rfl:r=false:=(by cases r;rfl;exact absurd (hr.1 rfl) HRP.out);clear hr;have ka:Below v.heap.size v wa:=d0.trans (ka'.mono d0.size);obtain ⟨tw1,tw2,tw3,tw4,tw5⟩:=hcells ka;have Rc:=R.below ka (by omega);have q0:=Rc.cell 0 rfl;have q1:=Rc.cell 1 rfl;have p0:=Rc.frozen 0;have p1:=Rc.frozen 1) | fail
   all_goals
    go_wp2
    have Rd2:=Rc.set2 (.int .i64 0) (.int .i64 0);have r0:=Rd2.cell 0 rfl;have r1:=Rd2.cell 1 rfl;refine bodyPost_ret (v:=.tuple #[.agg #[.int .i64 0,.int .i64 0],.bool false]) (by simp [results,Tryz.results109,go_sem,r0,r1]) rfl ?_;exact ⟨by rw [HE.out];rfl,Below.set2 (g.trans (ka.mono (by omega))) (by omega) _ _⟩
end
end
end Go.Proofs.YtimfnalpmmkndaaGreatDoor
