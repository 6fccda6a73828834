/- The document's Size, IsSimple, IsChar, noNum. -/
import Derived.Test.YtimfnalpmmkndaaGreatDoorAM
import Derived.Test.YtimfnalpmmkndaaGreatDoorJ8
import Derived.Test.YtimfnalpmmkndaaGreatDoorAN
set_option maxRecDepth 100000
set_option maxHeartbeats 6400000
set_option linter.unusedVariables false
set_option linter.unusedSimpArgs false
namespace Go.Proofs.YtimfnalpmmkndaaGreatDoor
variable {sh:List Int} {L:Nat} {M:Tr→Int→Option (Int×Int)} {most:Int}
section
open Go.RowKit
theorem lo_neg:(∃ x∈sh,x<0)→loF sh<0:=fun ⟨x,hx,h⟩=>by
 have:=(foldl_lo sh 1).2 x hx;unfold loF;omega
theorem foldl_lo_get:∀ (l:List Int) (a:Int),l.foldl min a=a∨l.foldl min a∈l
 | [],a=>Or.inl rfl
 | y :: l,a=>by
  rw [List.foldl_cons];rcases foldl_lo_get l (min a y) with h | h
  · rw [h]
    by_cases c:a≤y
    · exact Or.inl (by omega)
    · exact Or.inr (by rw [show min a y=y by omega];simp)
  · exact Or.inr (by simp [h])
theorem foldl_hi_get:∀ (l:List Int) (a:Int),l.foldl max a=a∨l.foldl max a∈l
 | [],a=>Or.inl rfl
 | y :: l,a=>by
  rw [List.foldl_cons];rcases foldl_hi_get l (max a y) with h | h
  · rw [h]
    by_cases c:y≤a
    · exact Or.inl (by omega)
    · exact Or.inr (by rw [show max a y=y by omega];simp)
  · exact Or.inr (by simp [h])
theorem lo_ok (h:∀ x∈sh,0≤x):¬ loF sh<0∧(loF sh=0↔0∈sh):=by
 unfold loF;have hl:=foldl_lo sh 1;rcases foldl_lo_get sh 1 with e | e
 · refine ⟨by omega,fun h0=>by omega,fun h0 => ?_⟩
   have:=hl.2 0 h0;omega
 · have:=h _ e
   refine ⟨by omega,fun h0=>by rw [← h0];exact e,fun h0 => ?_⟩;have:=hl.2 0 h0;omega
theorem hi_ok:4096<hiF sh↔∃ x∈sh,4096<x:=by
 unfold hiF;have hl:=foldl_hi sh 1;rcases foldl_hi_get sh 1 with e | e
 · refine ⟨fun h=>by omega,fun ⟨x,hx,h⟩ => ?_⟩
   have:=hl.2 x hx;omega
 · exact ⟨fun h=>⟨_,e,h⟩,fun ⟨x,hx,h⟩=>by have:=hl.2 x hx;omega⟩
section
variable {D:Nat→Prop} {w:World} {a:Option Addr} {c:Nat} {sh:List Int}
theorem refSize3_any (h:RdN D w (.slice a sh.length c) sh) (hD:∀ g,D g→g<w.heap.size) :
    Calls Tryz.prog 139 #[.slice a sh.length c] w fun e w'=>e=.returned (.tuple #[.int .i64 (sizeF sh).1,.int .i64 (sizeF sh).2])∧w'=w:=by
 have bd:=h.bounds;have HH:Hid (RdN D w (.slice a sh.length c) sh):=h;clear h hD;go_enter Tryz.func139,Tryz.ntmps139;by_cases h8:8<sh.length
 · have HF:Hid (sizeF sh=(0,4)):=by unfold Hid sizeF;rw [if_pos h8]
   go_wp2
   go_ret2
   exact ⟨by rw [HF.out];rfl,rfl⟩
 go_wp2
 go_loopw [4,5,6] (fun nv gv iv wr=>∃ (i:Nat) (N G:Bool),nv=.bool N∧gv=.bool G∧iv=.int .i64 i∧i≤sh.length∧Hid (N=true↔0∈sh.take i)∧Hid (G=true↔∃ x∈sh.take i,4096<x)∧Hid (∀ x∈sh.take i,0≤x)∧wr=w) (fun _ _ iv _=>sh.length - (intOf iv).toNat)
 case atStart=>exact ⟨0,false,false,rfl,rfl,rfl,Nat.zero_le _,by unfold Hid;simp,by unfold Hid;simp,by unfold Hid;simp,rfl⟩
 case round=>
  obtain ⟨i,N,G,rfl,rfl,rfl,hil,HN,HG,HP,hwr⟩:=hrel;subst hwr;by_cases hlt:i<sh.length
  · obtain ⟨g,o,rfl,hg,hc⟩:=HH.out.ptr (by omega)
    have q:=hc i hlt;have HX:Hid (sh.take (i+1)=sh.take i++[sh.getD i 0]):=by unfold Hid;rw [← List.take_append_getElem hlt];simp [List.getD,hlt]
    have HM:Hid (sh.getD i 0∈sh):=by unfold Hid;simp [List.getD,hlt]
    clear hc;generalize sh.getD i 0=X at *;by_cases hneg:X<0
    · have HF:Hid (sizeF sh=(0,3)):=by unfold Hid sizeF;rw [if_neg h8,if_pos (lo_neg ⟨X,HM.out,hneg⟩)]
      go_wp2
      go_ret2
      exact ⟨by rw [HF.out];rfl,rfl⟩
    · have HP2:Hid (∀ x∈sh.take (i+1),0≤x):=by
       unfold Hid;rw [HX.out];intro x hx;rcases List.mem_append.1 hx with hx | hx
       · exact HP.out x hx
       · rw [List.mem_singleton.1 hx];omega
      have HN2:∀ b,b=(N || decide (X=0))→Hid (b=true↔0∈sh.take (i+1)):=fun b hb=>by
       unfold Hid;rw [HX.out,hb,List.mem_append,← HN.out,List.mem_singleton];simp only [Bool.or_eq_true,decide_eq_true_eq];exact ⟨fun h=>h.imp id Eq.symm,fun h=>h.imp id Eq.symm⟩
      have HG2:∀ b,b=(G || decide (4096<X))→Hid (b=true↔∃ x∈sh.take (i+1),4096<x):=fun b hb=>by
       unfold Hid;rw [HX.out,hb];simp only [Bool.or_eq_true,decide_eq_true_eq,List.mem_append,List.mem_singleton];constructor
       · rintro (h | h)
         · obtain ⟨x,hx,h2⟩:=HG.out.1 h
           exact ⟨x,Or.inl hx,h2⟩
         · exact ⟨X,Or.inr rfl,h⟩
       · rintro ⟨x,hx | rfl,h2⟩
         · exact Or.inl (HG.out.2 ⟨x,hx,h2⟩)
         · exact Or.inr h2
      have HNH:Hid (∀ b,b=(N || decide (X=0))→Hid (b=true↔0∈sh.take (i+1))):=HN2
      have HGH:Hid (∀ b,b=(G || decide (4096<X))→Hid (b=true↔∃ x∈sh.take (i+1),4096<x)):=HG2
      clear HN2 HG2
      cases N <;> cases G <;> by_cases hz:X=0 <;> by_cases hbg:4096<X
      all_goals
       first
        | (have dz:(X==0)=true:=by rw [beq_iff_eq];exact hz)
        | (have dz:(X==0)=false:=by rw [beq_eq_false_iff_ne];exact hz)
       first
        | (exfalso;omega)
        | (have HZ:Hid (X=0):=hz
           clear hz;go_wp2
           go_roundw
           case rel=>exact ⟨i+1,_,_,rfl,rfl,by go_num,by omega,HNH.out _ (by simp [HZ.out]),HGH.out _ (by simp [hbg]),HP2,(by first | rfl | trivial)⟩
           case measure=>simp [intOf];omega)
        | (have HZ:Hid (¬ X=0):=hz
           clear hz;go_wp2
           go_roundw
           case rel=>exact ⟨i+1,_,_,rfl,rfl,by go_num,by omega,HNH.out _ (by simp [HZ.out]),HGH.out _ (by simp [hbg]),HP2,(by first | rfl | trivial)⟩
           case measure=>simp [intOf];omega)
  · have HNN:Hid (N=true↔0∈sh):=by have:=HN.out;rw [List.take_of_length_le (by omega)] at this;exact this
    have HGG:Hid (G=true↔∃ x∈sh,4096<x):=by have:=HG.out;rw [List.take_of_length_le (by omega)] at this;exact this
    have HPP:Hid (∀ x∈sh,0≤x):=by have:=HP.out;rw [List.take_of_length_le (by omega)] at this;exact this
    have hlo:=lo_ok HPP.out
    cases G with
    | true=>
     have HF:Hid (sizeF sh=(0,8)):=by unfold Hid sizeF;rw [if_neg h8,if_neg hlo.1,if_pos (hi_ok.2 (HGG.out.1 rfl))]
     clear hlo;go_wp2
     go_ret2
     exact ⟨by rw [HF.out];rfl,rfl⟩
    | false=>
     have hng:¬ 4096<hiF sh:=fun h=>by have:=HGG.out.2 (hi_ok.1 h);cases this
     cases N with
     | true=>
      have HF:Hid (sizeF sh=(0,0)):=by unfold Hid sizeF;rw [if_neg h8,if_neg hlo.1,if_neg hng,if_pos (hlo.2.2 (HNN.out.1 rfl))]
      clear hlo hng;go_wp2
      go_ret2
      exact ⟨by rw [HF.out];rfl,rfl⟩
     | false=>
      have hnz:¬ loF sh=0:=fun h=>by have:=HNN.out.2 (hlo.2.1 h);cases this
      have HF:Hid (sizeF sh=match prodF sh 1 with | some n=>(n,0) | none=>(0,8)):=by unfold Hid sizeF;rw [if_neg h8,if_neg hlo.1,if_neg hng,if_neg hnz];cases prodF sh 1 <;> rfl
      have HIN:Hid (∀ x∈sh,1≤x∧x≤4096):=fun x hx=>by
       have a1:=HPP.out x hx;have a2:¬ x=0:=fun e=>hnz (hlo.2.2 (by rw [← e];exact hx));have a3:¬ 4096<x:=fun e=>hng (hi_ok.2 ⟨x,hx,e⟩);omega
      clear hlo hng hnz;go_wp2
      go_loopw [7,8] (fun sv iv wr2=>∃ (i:Nat) (S:Int),sv=.int .i64 S∧iv=.int .i64 i∧i≤sh.length∧1≤S∧S≤4096∧Hid (prodF sh 1=prodF (sh.drop i) S)∧wr2=wr) (fun _ iv _=>sh.length - (intOf iv).toNat)
      case atStart=>exact ⟨0,1,rfl,rfl,Nat.zero_le _,by omega,by omega,rfl,rfl⟩
      case round=>
       obtain ⟨i,S,rfl,rfl,hil,h1,h2,HPr,hwr⟩:=hrel;subst hwr;by_cases hlt:i<sh.length
       · obtain ⟨g,o,rfl,hg,hc⟩:=HH.out.ptr (by omega)
         have q:=hc i hlt;have hx:=HIN.out (sh.getD i 0) (by simp [List.getD,hlt]);have HQ:Hid (prodF (sh.drop i) S=if 4096<S*sh.getD i 0 then none else prodF (sh.drop (i+1)) (S*sh.getD i 0)):=by
          unfold Hid;rw [List.drop_eq_getElem_cons hlt,prodF];simp [List.getD,hlt]
         clear hc;generalize sh.getD i 0=X at *;have hb:=mulLen h1 h2 hx.1 hx.2;by_cases hbig:4096<S*X
         · have HNx:Hid (prodF sh 1=none):=by unfold Hid;rw [HPr.out,HQ.out,if_pos hbig]
           go_wp2
           go_ret2
           exact ⟨by rw [HF.out,HNx.out];rfl,rfl⟩
         · have HNx:Hid (prodF sh 1=prodF (sh.drop (i+1)) (S*X)):=by unfold Hid;rw [HPr.out,HQ.out,if_neg hbig]
           go_wp2
           go_roundw
           case rel=>exact ⟨i+1,S*X,by go_num,by go_num,by omega,hb.1,by omega,HNx,(by first | rfl | trivial)⟩
           case measure=>simp [intOf];omega
       · have HNx:Hid (prodF sh 1=some S):=by
          unfold Hid;rw [HPr.out,List.drop_eq_nil_of_le (by omega),prodF]
         go_wp2
         go_ret2
         exact ⟨by rw [HF.out,HNx.out];rfl,rfl⟩
theorem refIsChar_any (c:Int) (w:World):Calls Tryz.prog 141 #[.int .i32 c] w fun e w'=>TellsRune c e∧w'=w:=by
 go_enter Tryz.func141,Tryz.ntmps141;by_cases h1:0≤c
 · by_cases h2:c≤1114111
   · by_cases h3:c<55296
     · go_wp2
       go_ret
       exact ⟨⟨true,rfl,fun _=>Or.inl ⟨h1,h3⟩,fun _=>rfl⟩,rfl⟩
     · by_cases h4:57343<c
       · go_wp2
         go_ret
         exact ⟨⟨true,rfl,fun _=>Or.inr ⟨h4,h2⟩,fun _=>rfl⟩,rfl⟩
       · go_wp2
         go_ret
         exact ⟨⟨false,rfl,(fun h=>by cases h),fun h=>by unfold okR at h;omega⟩,rfl⟩
   · go_wp2
     go_ret
     exact ⟨⟨false,rfl,(fun h=>by cases h),fun h=>by unfold okR at h;omega⟩,rfl⟩
 · go_wp2
   go_ret
   exact ⟨⟨false,rfl,(fun h=>by cases h),fun h=>by unfold okR at h;omega⟩,rfl⟩
theorem noNum_any (k:Int) (b:Bool) (a1:Option Addr) (n1 c1:Nat) (a2:Option Addr) (n2 c2:Nat) (ch:Int) (a3:Option Addr) (n3 c3:Nat) (w:World) (h1:n1≤9223372036854775807) (h2:n2≤9223372036854775807) :
    Calls Tryz.prog 142 #[.agg #[.int .u8 k,.bool b,.slice a1 n1 c1,.slice a2 n2 c2,.int .i32 ch,.slice a3 n3 c3]] w fun e w'=>e=.returned (.bool (!b && decide (n1=0) && decide (n2=0)))∧w'=w.alloc (.cells #[.int .u8 k,.bool b,.slice a1 n1 c1,.slice a2 n2 c2,.int .i32 ch,.slice a3 n3 c3] 113):=by
 have X:=boxA_new w #[.int .u8 k,.bool b,.slice a1 n1 c1,.slice a2 n2 c2,.int .i32 ch,.slice a3 n3 c3] 113;have x1:=X.cell 1 rfl;have x2:=X.cell 2 rfl;have x3:=X.cell 3 rfl;go_enter Tryz.func142,Tryz.ntmps142
 cases b with
 | true=>
  go_wp2
  go_ret
  exact ⟨rfl,rfl⟩
 | false=>
  by_cases e1:n1=0
  · have d1:((n1:Int)==0)=true:=by rw [beq_iff_eq];omega
    by_cases e2:n2=0
    · have d2:((n2:Int)==0)=true:=by rw [beq_iff_eq];omega
      have HQ:Hid ((!false && decide (n1=0) && decide (n2=0))=true):=by unfold Hid;rw [decide_eq_true e1,decide_eq_true e2];rfl
      clear e1 e2;go_wp2
      go_ret
      exact ⟨by rw [HQ.out];rfl,rfl⟩
    · have d2:((n2:Int)==0)=false:=by rw [beq_eq_false_iff_ne];omega
      have HQ:Hid ((!false && decide (n1=0) && decide (n2=0))=false):=by unfold Hid;rw [decide_eq_true e1,decide_eq_false e2];rfl
      clear e1 e2;go_wp2
      go_ret
      exact ⟨by rw [HQ.out];rfl,rfl⟩
  · have d1:((n1:Int)==0)=false:=by rw [beq_eq_false_iff_ne];omega
    have HQ:Hid ((!false && decide (n1=0) && decide (n2=0))=false):=by unfold Hid;rw [decide_eq_false e1];rfl
    clear e1;go_wp2
    go_ret
    exact ⟨by rw [HQ.out];rfl,rfl⟩
def simpR (t:Tr):Bool:=decide (t.ns.length=0) && decide (t.kids.length=1) && decide (¬ (t.kids.getD 0 tr0).k=3)
end
theorem refIsSimple_any {D:Nat→Prop} {f:Nat} {W:World} {x1:Option Addr} {n1 y1:Nat} {x2:Option Addr} {n2 y2:Nat} {t:Tr} (h:ArV (f+1) D W (.slice x1 n1 y1) (.slice x2 n2 y2) t) (hD:∀ g,D g→g<W.heap.size) :
    Calls Tryz.prog 143 #[.agg #[.slice x1 n1 y1,.slice x2 n2 y2]] W fun e w'=>e=.returned (.bool (simpR t))∧w'=W.alloc (.cells #[.slice x1 n1 y1,.slice x2 n2 y2] 29):=by
 obtain rfl:=h.1.len;obtain rfl:=h.2.len;have bd1:=h.1.bounds;have bd2:=h.2.bounds;have X:=boxA_new W #[.slice x1 t.ns.length y1,.slice x2 t.kids.length y2] 29;have k:=below_alloc W (.cells #[.slice x1 t.ns.length y1,.slice x2 t.kids.length y2] 29);have p0:=X.cell 0 rfl;have p1:=X.cell 1 rfl;go_enter Tryz.func143,Tryz.ntmps143;by_cases e1:t.ns.length=0
 · have d1:((t.ns.length:Int)==0)=true:=by rw [beq_iff_eq];omega
   by_cases e2:t.kids.length=1
   · have d2:((t.kids.length:Int)==1)=true:=by rw [beq_iff_eq];omega
     obtain ⟨g,o,rfl,hg,hc⟩:=h.2.ptr (by omega);obtain ⟨a1,c1,a2,c2,a3,c3,⟨z0,_⟩,_⟩:=hc 0 (by omega);rw [Nat.zero_mul,Nat.add_zero] at z0;have q0:=(k.cell (p:=⟨g,o,none⟩) (hD g hg)).trans z0;have HQ:Hid (simpR t=decide (¬ (t.kids.getD 0 tr0).k=3)):=by unfold Hid simpR;rw [decide_eq_true e1,decide_eq_true e2];rfl
     have hpos:0<t.kids.length:=by omega
     clear h hc z0 e1 e2;generalize (t.kids.getD 0 tr0).k=K at *;by_cases k1:K=3
     · have d3:(K != 3)=false:=by rw [bne_eq_false_iff_eq];exact k1
       have HR:Hid (simpR t=false):=by unfold Hid;rw [HQ.out];simp [k1]
       clear k1 HQ;go_wp2
       go_ret
       exact ⟨by rw [HR.out];rfl,rfl⟩
     · have d3:(K != 3)=true:=by rw [bne_iff_ne];exact k1
       have HR:Hid (simpR t=true):=by unfold Hid;rw [HQ.out];simp [k1]
       clear k1 HQ;go_wp2
       go_ret
       exact ⟨by rw [HR.out];rfl,rfl⟩
   · have d2:((t.kids.length:Int)==1)=false:=by rw [beq_eq_false_iff_ne];omega
     have HR:Hid (simpR t=false):=by unfold Hid simpR;rw [decide_eq_true e1,decide_eq_false e2];rfl
     clear e1 e2;go_wp2
     go_ret
     exact ⟨by rw [HR.out];rfl,rfl⟩
 · have d1:((t.ns.length:Int)==0)=false:=by rw [beq_eq_false_iff_ne];omega
   have HR:Hid (simpR t=false):=by unfold Hid simpR;rw [decide_eq_false e1];rfl
   clear e1;go_wp2
   go_ret
   exact ⟨by rw [HR.out];rfl,rfl⟩
open Classical in
noncomputable def refI (M:Tr→Int→Option (Int×Int)) (rest:Int) (t:Tr):Option (Int×Int):=
 if t.k=1∧RightP t.b t.ns t.ds∧t.c=0∧t.kids.length=0 then some (0,0)
 else if t.k=2∧okR t.c∧noneB t=true∧t.kids.length=0 then some (0,0)
 else if t.k=3∧t.kids.length=1∧noneB t=true∧t.c=0∧simpR (t.kids.getD 0 tr0)=false then M (t.kids.getD 0 tr0) rest
 else none
noncomputable def refL (M:Tr→Int→Option (Int×Int)) (most:Int):List Tr→Int×Int→Option (Int×Int)
 | [],w=>some w
 | t :: r,w=>match refI M (most - w.2) t with
  | none=>none
  | some p=>refL M most r (max w.1 p.1,w.2+p.2)
noncomputable def refF:Nat→Tr→Int→Option (Int×Int)
 | 0,_,_=>none
 | L+1,t,most=>if (sizeF t.ns).2=0∧(t.kids.length:Int)=max (sizeF t.ns).1 1∧(t.kids.length:Int)≤most then
     (match refL (refF L) most t.kids (0,(t.kids.length:Int)) with
      | none=>none
      | some p=>some (if simpR t=true then p.1 else p.1+1,p.2)) else none
def inR (L:Nat) (most:Int) (o:Option (Int×Int)):Prop:=∀ p,o=some p→0≤p.1∧p.1≤L∧0≤p.2∧p.2≤most
theorem refI_in {rest:Int} (hr:0≤rest) (hM:∀ t,inR L rest (M t rest)) (t:Tr):inR L rest (refI M rest t):=by
 intro p hp;unfold refI at hp
 split at hp
 · cases hp;simp;omega
 split at hp
 · cases hp;simp;omega
 split at hp
 · exact hM _ p hp
 · cases hp
theorem refL_in (hM:∀ t r,0≤r→inR L r (M t r)):∀ (l:List Tr) (w p:Int×Int),0≤w.1→w.1≤L→0≤w.2→w.2≤most→refL M most l w=some p→0≤p.1∧p.1≤L∧0≤p.2∧p.2≤most
 | [],w,p,h1,h2,h3,h4,h=>by rw [refL] at h;cases h;exact ⟨h1,h2,h3,h4⟩
 | t :: r,w,p,h1,h2,h3,h4,h=>by
  rw [refL] at h
  cases hi:refI M (most - w.2) t with
  | none=>rw [hi] at h;cases h
  | some q=>
   rw [hi] at h;have hq:=refI_in (by omega) (fun s=>hM s _ (by omega)) t q hi;exact refL_in hM r _ p (by simp only;omega) (by simp only;omega) (by simp only;omega) (by simp only;omega) h
theorem refF_in:∀ (L:Nat) (t:Tr) (most:Int),inR L most (refF L t most)
 | 0,t,most=>by intro p hp;rw [refF] at hp;cases hp
 | L+1,t,most=>by
  intro p hp;rw [refF] at hp;by_cases hc:(sizeF t.ns).2=0∧(t.kids.length:Int)=max (sizeF t.ns).1 1∧(t.kids.length:Int)≤most
  · rw [if_pos hc] at hp
    cases hl:refL (refF L) most t.kids (0,(t.kids.length:Int)) with
    | none=>rw [hl] at hp;cases hp
    | some q=>
     rw [hl] at hp;have:=refL_in (fun s r _=>refF_in L s r) t.kids _ q (by simp) (by simp) (by simp only;omega) (by simp only;omega) hl;simp only at hp
     cases hp
     refine ⟨?_,?_,this.2.2.1,this.2.2.2⟩
     · simp only;split <;> omega
     · simp only;split <;> (push_cast;omega)
  · rw [if_neg hc] at hp;cases hp
def rEnd (o:Option (Int×Int)):Ending:=.returned (.tuple #[.bool o.isSome,.int .i64 (o.getD (0,0)).1,.int .i64 (o.getD (0,0)).2])
def RMeasOK (L:Nat):Prop:=∀ (f:Nat) (D:Nat→Prop) (W:World) (x1:Option Addr) (n1 y1:Nat) (x2:Option Addr) (n2 y2:Nat) (t:Tr) (deep most:Int),deep=17 - (L:Int)→0≤most→most≤16384→(∀ g,D g→g<W.heap.size)→ArV f D W (.slice x1 n1 y1) (.slice x2 n2 y2) t →
 Calls Tryz.prog 103 #[.agg #[.slice x1 n1 y1,.slice x2 n2 y2],.int .i64 deep,.int .i64 most] W fun e w'=>e=rEnd (refF L t most)∧Below W.heap.size W w'
theorem refL_step {l:List Tr} {i:Nat} (hi:i<l.length) (w:Int×Int):refL M most (l.drop i) w=match refI M (most - w.2) (l.getD i tr0) with
    | none=>none
    | some p=>refL M most (l.drop (i+1)) (max w.1 p.1,w.2+p.2):=by
 rw [List.drop_eq_getElem_cons hi,refL];have e:l.getD i tr0=l[i]:=by simp [List.getD,hi]
 rw [e]
theorem refL_end {l:List Tr} {i:Nat} (hi:l.length≤i) (w:Int×Int):refL M most (l.drop i) w=some w:=by
 rw [List.drop_eq_nil_of_le hi,refL]
def finR (t:Tr) (o:Option (Int×Int)):Option (Int×Int):=match o with | none=>none | some p=>some (if simpR t=true then p.1 else p.1+1,p.2)
theorem refF_succ {t:Tr} (hc:(sizeF t.ns).2=0∧(t.kids.length:Int)=max (sizeF t.ns).1 1∧(t.kids.length:Int)≤most):refF (L+1) t most=finR t (refL (refF L) most t.kids (0,(t.kids.length:Int))):=by
 rw [refF,if_pos hc];unfold finR
 cases refL (refF L) most t.kids (0,(t.kids.length:Int)) <;> rfl
section
variable {M:Tr→Int→Option (Int×Int)} {t:Tr} {rest:Int}
theorem refI_num (h:t.k=1∧RightP t.b t.ns t.ds∧t.c=0∧t.kids.length=0):refI M rest t=some (0,0):=by unfold refI;rw [if_pos h]
theorem refI_ch (h:t.k=2∧okR t.c∧noneB t=true∧t.kids.length=0):refI M rest t=some (0,0):=by unfold refI;rw [if_neg (by omega),if_pos h]
theorem refI_box (h:t.k=3∧t.kids.length=1∧noneB t=true∧t.c=0∧simpR (t.kids.getD 0 tr0)=false):refI M rest t=M (t.kids.getD 0 tr0) rest:=by unfold refI;rw [if_neg (by omega),if_neg (by omega),if_pos h]
theorem refI_no (h1:¬ (t.k=1∧RightP t.b t.ns t.ds∧t.c=0∧t.kids.length=0)) (h2:¬ (t.k=2∧okR t.c∧noneB t=true∧t.kids.length=0)) (h3:¬ (t.k=3∧t.kids.length=1∧noneB t=true∧t.c=0∧simpR (t.kids.getD 0 tr0)=false)):refI M rest t=none:=by unfold refI;rw [if_neg h1,if_neg h2,if_neg h3]
end
end
section
open Go.RowKit
def CutP (P:Prop) (q:Value):Prop:=∃ r,q=.bool r∧(r=true↔P)
theorem rmeas_step (hL:L≤16) (hM:RMeasOK L):RMeasOK (L+1):=by
 intro f D W x1 n1 y1 x2 n2 y2 t deep most hdeep hm0 hm1 hD h;obtain ⟨f,rfl⟩:∃ f',f=f'+1:=by
  cases f with
  | zero=>exact h.elim
  | succ f=>exact ⟨f,rfl⟩
 obtain rfl:=h.1.len;obtain rfl:=h.2.len;have bd1:=h.1.bounds;have bd2:=h.2.bounds;have HM:Hid (RMeasOK L):=hM;have H:Hid (ArV (f+1) D W (.slice x1 t.ns.length y1) (.slice x2 t.kids.length y2) t):=h;have HD:Hid (∀ g,D g→g<W.heap.size):=hD;have HDP:Hid (deep=17 - ((L+1:Nat):Int)):=hdeep;have hdp:0≤deep∧deep≤16:=by omega
 clear hM h hD hdeep;have X:=boxA_new W #[.slice x1 t.ns.length y1,.slice x2 t.kids.length y2] 29;have g:=below_alloc W (.cells #[.slice x1 t.ns.length y1,.slice x2 t.kids.length y2] 29);have sv:(W.alloc (.cells #[.slice x1 t.ns.length y1,.slice x2 t.kids.length y2] 29)).heap.size=W.heap.size+1:=by simp
 have z0:=X.cell 0 rfl;have z1:=X.cell 1 rfl;go_enter Tryz.func103,Tryz.ntmps103
 go_wp2_with fail
 generalize hA:W.alloc (.cells #[.slice x1 t.ns.length y1,.slice x2 t.kids.length y2] 29)=v at *;clear hA;refine (refSize3_any (H.out.1.imp (fun _ h=>h) (Agree.of g HD.out)) (fun g hg=>by have:=HD.out g hg;omega)).mono ?_;rintro e w' ⟨rfl,hw⟩;obtain rfl:=hw.symm;have hsi:=sizeF_in t.ns;by_cases he:(sizeF t.ns).2=0
 case neg=>
  have HE:Hid (refF (L+1) t most=none):=by unfold Hid;rw [refF,if_neg (fun h=>he h.1)]
  generalize (sizeF t.ns).2=E at *;generalize (sizeF t.ns).1=N at *;have d1:(E != 0)=true:=by rw [bne_iff_ne];exact he
  clear he;go_wp2
  go_ret3
  exact ⟨by rw [HE.out];rfl,g⟩
 case pos=>
  have HEz:Hid ((sizeF t.ns).2=0):=he;have d1:((sizeF t.ns).2 != 0)=false:=by rw [bne_eq_false_iff_eq];exact he
  clear he;obtain ⟨M,hMx⟩:∃ M,max (sizeF t.ns).1 1=M:=⟨_,rfl⟩;have HMx:Hid (max (sizeF t.ns).1 1=M):=hMx;generalize hE:(sizeF t.ns).2=E at *;generalize hN:(sizeF t.ns).1=N at *;by_cases hc:(t.kids.length:Int)=M∧(t.kids.length:Int)≤most
  case neg=>
   have HE:Hid (refF (L+1) t most=none):=by unfold Hid;rw [refF,if_neg];rintro ⟨_,h2,h3⟩;rw [hN] at h2;exact hc ⟨by rw [h2,hMx],h3⟩
   clear hE hN;by_cases hz:N=0
   · have dz:(N==0)=true:=by rw [beq_iff_eq];exact hz
     obtain rfl:M=1:=by omega
     by_cases hl:(t.kids.length:Int)=1
     · have dl:((t.kids.length:Int) != 1)=false:=by rw [bne_eq_false_iff_eq];exact hl
       have dm:most<1:=by have:=fun h=>hc ⟨hl,h⟩;omega
       clear hc hl hz;go_wp2
       go_ret3
       exact ⟨by rw [HE.out];rfl,g⟩
     · have dl:((t.kids.length:Int) != 1)=true:=by rw [bne_iff_ne];exact hl
       clear hc hl hz;go_wp2
       go_ret3
       exact ⟨by rw [HE.out];rfl,g⟩
   · have dz:(N==0)=false:=by rw [beq_eq_false_iff_ne];exact hz
     obtain rfl:M=N:=by omega
     by_cases hl:(t.kids.length:Int)=M
     · have dl:((t.kids.length:Int) != M)=false:=by rw [bne_eq_false_iff_eq];exact hl
       have dm:most<M:=by have:=fun h=>hc ⟨hl,h⟩;omega
       clear hc hl hz;go_wp2
       go_ret3
       exact ⟨by rw [HE.out];rfl,g⟩
     · have dl:((t.kids.length:Int) != M)=true:=by rw [bne_iff_ne];exact hl
       clear hc hl hz;go_wp2
       go_ret3
       exact ⟨by rw [HE.out];rfl,g⟩
  case pos=>
   have HE:Hid (refF (L+1) t most=finR t (refL (refF L) most t.kids (0,(t.kids.length:Int)))):=refF_succ ⟨hE.trans HEz.out,by rw [hN,hMx];exact hc.1,hc.2⟩;have dl:((t.kids.length:Int) != M)=false:=by rw [bne_eq_false_iff_eq];exact hc.1
   have dm:¬ most<M:=by have:=hc.1;have:=hc.2;omega
   have HCL:Hid ((t.kids.length:Int)=M):=hc.1;have hlm:(t.kids.length:Int)≤most:=hc.2;have HIN:Hid (∀ s r,0≤r→inR L r (refI (refF L) r s)):=fun s r hr=>refI_in hr (fun s=>refF_in L s r) s;have hMx2:=hMx;clear hc hE hN HEz HMx;rcases (show (N=0∧M=1)∨(¬ N=0∧M=N) by omega) with ⟨hz,rfl⟩ | ⟨hz,rfl⟩
   all_goals
    first
     | (have dz:(N==0)=true:=by rw [beq_iff_eq];exact hz)
     | (have dz:(M==0)=false:=by rw [beq_eq_false_iff_ne];exact hz)
    clear hz;go_wp2
    clear z0 z1
    go_loopw [11,12,13] (fun dv cv iv wr=>∃ (i:Nat) (d c:Int),dv=.int .i64 d∧cv=.int .i64 c∧iv=.int .i64 i∧i≤t.kids.length∧0≤d∧d≤L∧0≤c∧c≤most∧Hid (refL (refF L) most t.kids (0,(t.kids.length:Int))=refL (refF L) most (t.kids.drop i) (d,c))∧Below v.heap.size v wr) (fun _ _ iv _=>t.kids.length - (intOf iv).toNat)
    case atStart=>exact ⟨0,0,_,rfl,rfl,rfl,Nat.zero_le _,by omega,by omega,by have:=HCL.out;omega,by have:=HCL.out;omega,(by unfold Hid;rw [List.drop_zero,HCL.out]),Below.refl _ _⟩
    case round=>
     obtain ⟨i,d,c,rfl,rfl,rfl,hil,hd1,hd2,hc1,hc2,HL,hb⟩:=hrel;have hsz:=hb.size;have gr:Below W.heap.size W wr:=g.trans (hb.mono (by omega));have Xr:=X.below hb (by omega);have z0:=Xr.cell 0 rfl;have z1:=Xr.cell 1 rfl;by_cases hlt:i<t.kids.length
     · obtain ⟨gx,ox,rfl,hgx,hcx⟩:=H.out.2.ptr (by omega)
       obtain ⟨a1,c1,a2,c2,a3,c3,⟨e0,e1,e2,e3,e4,e5⟩,hp⟩:=hcx i hlt;have E0:=(gr.cell (p:=⟨gx,ox+i*6,none⟩) (HD.out gx hgx)).trans e0;have E1:=(gr.cell (p:=⟨gx,ox+i*6+1,none⟩) (HD.out gx hgx)).trans e1;have E2:=(gr.cell (p:=⟨gx,ox+i*6+2,none⟩) (HD.out gx hgx)).trans e2;have E3:=(gr.cell (p:=⟨gx,ox+i*6+3,none⟩) (HD.out gx hgx)).trans e3;have E4:=(gr.cell (p:=⟨gx,ox+i*6+4,none⟩) (HD.out gx hgx)).trans e4;have E5:=(gr.cell (p:=⟨gx,ox+i*6+5,none⟩) (HD.out gx hgx)).trans e5;have HST:Hid (refL (refF L) most t.kids (0,(t.kids.length:Int))=match refI (refF L) (most - c) (t.kids.getD i tr0) with
           | none=>none
           | some p=>refL (refF L) most (t.kids.drop (i+1)) (max d p.1,c+p.2)):=by
        have:=refL_step (M:=refF L) (most:=most) hlt (d,c);rw [← HL.out] at this;exact this
       clear HL hcx e0 e1 e2 e3 e4 e5;generalize t.kids.getD i tr0=T at *;have NX:=boxA_new wr #[.int .u8 T.k,.bool T.b,.slice a1 T.ns.length c1,.slice a2 T.ds.length c2,.int .i32 T.c,.slice a3 T.kids.length c3] 113;have kx:=below_alloc wr (.cells #[.int .u8 T.k,.bool T.b,.slice a1 T.ns.length c1,.slice a2 T.ds.length c2,.int .i32 T.c,.slice a3 T.kids.length c3] 113);have sx:wr.heap.size<(wr.alloc (.cells #[.int .u8 T.k,.bool T.b,.slice a1 T.ns.length c1,.slice a2 T.ds.length c2,.int .i32 T.c,.slice a3 T.kids.length c3] 113)).heap.size:=by simp
       have gx2:Below W.heap.size W (wr.alloc (.cells #[.int .u8 T.k,.bool T.b,.slice a1 T.ns.length c1,.slice a2 T.ds.length c2,.int .i32 T.c,.slice a3 T.kids.length c3] 113)):=gr.trans (kx.mono (by omega));have HIT:Hid (ItV (ArV f D (wr.alloc (.cells #[.int .u8 T.k,.bool T.b,.slice a1 T.ns.length c1,.slice a2 T.ds.length c2,.int .i32 T.c,.slice a3 T.kids.length c3] 113))) D (wr.alloc (.cells #[.int .u8 T.k,.bool T.b,.slice a1 T.ns.length c1,.slice a2 T.ds.length c2,.int .i32 T.c,.slice a3 T.kids.length c3] 113)) a1 c1 a2 c2 a3 c3 T):=hp.agree (Agree.of gx2 HD.out);have hr1:=HIT.out.rn.rd (B:=(wr.alloc (.cells #[.int .u8 T.k,.bool T.b,.slice a1 T.ns.length c1,.slice a2 T.ds.length c2,.int .i32 T.c,.slice a3 T.kids.length c3] 113)).heap.size) (fun g hg=>by have:=HD.out g hg;omega);have hr2:=HIT.out.rd.rd (B:=(wr.alloc (.cells #[.int .u8 T.k,.bool T.b,.slice a1 T.ns.length c1,.slice a2 T.ds.length c2,.int .i32 T.c,.slice a3 T.kids.length c3] 113)).heap.size) (fun g hg=>by have:=HD.out g hg;omega);have bd3:=HIT.out.bx.bounds
       go_upto_region 15 with fail
       generalize hA:wr.alloc (.cells #[.int .u8 T.k,.bool T.b,.slice a1 T.ns.length c1,.slice a2 T.ds.length c2,.int .i32 T.c,.slice a3 T.kids.length c3] 113)=wx at *;clear hA E0 E1 E2 E3 E4 E5 hp;have hl1:T.ns.length≤9223372036854775807:=by obtain ⟨_,_,_,_,_,h,_⟩:=hr1;omega
       have hl2:T.ds.length≤9223372036854775807:=by obtain ⟨_,_,_,_,_,h,_⟩:=hr2;omega
       have hDx:∀ g,D g→g<wx.heap.size:=fun g hg=>by have:=HD.out g hg;omega
       have hbx:Below v.heap.size v wx:=hb.trans (kx.mono (by omega))
       go_cut [55] from 56 to 74 (fun q wz=>CutP (T.k=1∧RightP T.b T.ns T.ds∧T.c=0∧T.kids.length=0) q∧Below wx.heap.size wx wz)
       case first=>
        have m0:=NX.cell 0 rfl;have m1:=NX.cell 1 rfl;have m2:=NX.cell 2 rfl;have m3:=NX.cell 3 rfl;have m4:=NX.cell 4 rfl;have m5:=NX.cell 5 rfl;by_cases e1:T.k=1
        · have d1:(T.k==1)=true:=by rw [beq_iff_eq];exact e1
          have H1:Hid (T.k=1):=e1;clear e1
          go_wp2_with fail
          refine (refRight_rat hr1 hr2).mono ?_;rintro e wb ⟨⟨r,rfl,hr⟩,kb⟩;have HR:Hid (r=true↔RightP T.b T.ns T.ds):=hr;clear hr m0 m1 m2 m3 m4 m5;have NB:=NX.below kb (by omega);have m4:=NB.cell 4 rfl;have m5:=NB.cell 5 rfl
          cases r with
          | false=>
           have HA:Hid (¬ (T.k=1∧RightP T.b T.ns T.ds∧T.c=0∧T.kids.length=0)):=fun h=>by have:=HR.out.2 h.2.1;cases this
           go_wp2_with fail
           go_meet
           exact ⟨⟨false,rfl,(fun h=>by cases h),fun h=>absurd h HA.out⟩,kb⟩
          | true=>
           by_cases hc:T.c=0
           · have dc:(T.c==0)=true:=by rw [beq_iff_eq];exact hc
             by_cases hk:T.kids.length=0
             · have dk:((T.kids.length:Int)==0)=true:=by rw [beq_iff_eq];omega
               have HA:Hid (T.k=1∧RightP T.b T.ns T.ds∧T.c=0∧T.kids.length=0):=⟨H1.out,HR.out.1 rfl,hc,hk⟩;clear hc hk
               go_wp2_with fail
               go_meet
               exact ⟨⟨true,rfl,fun _=>HA.out,fun _=>rfl⟩,kb⟩
             · have dk:((T.kids.length:Int)==0)=false:=by rw [beq_eq_false_iff_ne];omega
               have HA:Hid (¬ (T.k=1∧RightP T.b T.ns T.ds∧T.c=0∧T.kids.length=0)):=fun h=>hk h.2.2.2;clear hc hk
               go_wp2_with fail
               go_meet
               exact ⟨⟨false,rfl,(fun h=>by cases h),fun h=>absurd h HA.out⟩,kb⟩
           · have dc:(T.c==0)=false:=by rw [beq_eq_false_iff_ne];exact hc
             have HA:Hid (¬ (T.k=1∧RightP T.b T.ns T.ds∧T.c=0∧T.kids.length=0)):=fun h=>hc h.2.2.1;clear hc
             go_wp2_with fail
             go_meet
             exact ⟨⟨false,rfl,(fun h=>by cases h),fun h=>absurd h HA.out⟩,kb⟩
        · have d1:(T.k==1)=false:=by rw [beq_eq_false_iff_ne];exact e1
          have HA:Hid (¬ (T.k=1∧RightP T.b T.ns T.ds∧T.c=0∧T.kids.length=0)):=fun h=>e1 h.1;clear e1
          go_wp2_with fail
          go_meet
          exact ⟨⟨false,rfl,(fun h=>by cases h),fun h=>absurd h HA.out⟩,Below.refl _ _⟩
       case rest=>
        obtain ⟨⟨q1,rfl,hq1⟩,kz1⟩:=hcut;generalize wc=wz1 at *;have HQ1:Hid (q1=true↔(T.k=1∧RightP T.b T.ns T.ds∧T.c=0∧T.kids.length=0)):=hq1;clear hq1
        cases q1 with
        | true=>
         have HI:Hid (refI (refF L) (most - c) T=some (0,0)):=refI_num (HQ1.out.1 rfl);have HL2:Hid (refL (refF L) most t.kids (0,(t.kids.length:Int))=refL (refF L) most (t.kids.drop (i+1)) (d,c)):=by unfold Hid;rw [HST.out,HI.out];simp only;rw [show max d 0=d by omega,Int.add_zero]
         clear HST HIN;go_wp2
         go_roundw
         case rel=>exact ⟨i+1,d,c,rfl,rfl,by go_num,by omega,hd1,hd2,hc1,hc2,HL2,hbx.trans (kz1.mono (by omega))⟩
         case measure=>simp [intOf];omega
        | false=>
         have HN1:Hid (¬ (T.k=1∧RightP T.b T.ns T.ds∧T.c=0∧T.kids.length=0)):=fun h=>by have:=HQ1.out.2 h;cases this
         clear HQ1
         go_upto_region 16 with fail
         go_cut [75] from 76 to 93 (fun q wz=>CutP (T.k=2∧okR T.c∧noneB T=true∧T.kids.length=0) q∧Below wx.heap.size wx wz)
         case first=>
          have NZ:=NX.below kz1 (by omega);have m0:=NZ.cell 0 rfl;have m1:=NZ.cell 1 rfl;have m2:=NZ.cell 2 rfl;have m3:=NZ.cell 3 rfl;have m4:=NZ.cell 4 rfl;have m5:=NZ.cell 5 rfl;by_cases e2:T.k=2
          · have d2:(T.k==2)=true:=by rw [beq_iff_eq];exact e2
            have H2:Hid (T.k=2):=e2;clear e2
            go_wp2_with fail
            refine (refIsChar_any T.c _).mono ?_;rintro e wb ⟨⟨r,rfl,hr⟩,hw⟩;obtain rfl:=hw.symm;have HR:Hid (r=true↔okR T.c):=hr;clear hr
            cases r with
            | false=>
             have HA:Hid (¬ (T.k=2∧okR T.c∧noneB T=true∧T.kids.length=0)):=fun h=>by have:=HR.out.2 h.2.1;cases this
             go_wp2_with fail
             go_meet
             exact ⟨⟨false,rfl,(fun h=>by cases h),fun h=>absurd h HA.out⟩,kz1⟩
            | true=>
             go_wp2_with fail
             refine (noNum_any T.k T.b a1 T.ns.length c1 a2 T.ds.length c2 T.c a3 T.kids.length c3 _ hl1 hl2).mono ?_;rintro e wc ⟨rfl,hwc⟩;have kc:=below_alloc wz1 (.cells #[.int .u8 T.k,.bool T.b,.slice a1 T.ns.length c1,.slice a2 T.ds.length c2,.int .i32 T.c,.slice a3 T.kids.length c3] 113);rw [← hwc] at kc;clear hwc m0 m1 m2 m3 m4 m5;have kzc:Below wx.heap.size wx wc:=kz1.trans (kc.mono kz1.size);have NC:=NX.below kzc (by omega);have m5:=NC.cell 5 rfl;have hN:noneB T=(!T.b && decide (T.ns.length=0) && decide (T.ds.length=0)):=rfl;rw [← hN];clear hN
             cases hn:noneB T with
             | false=>
              have HA:Hid (¬ (T.k=2∧okR T.c∧noneB T=true∧T.kids.length=0)):=fun h=>by rw [hn] at h;cases h.2.2.1
              clear hn
              go_wp2_with fail
              go_meet
              exact ⟨⟨false,rfl,(fun h=>by cases h),fun h=>absurd h HA.out⟩,kzc⟩
             | true=>
              by_cases hk:T.kids.length=0
              · have dk:((T.kids.length:Int)==0)=true:=by rw [beq_iff_eq];omega
                have HA:Hid (T.k=2∧okR T.c∧noneB T=true∧T.kids.length=0):=⟨H2.out,(by first | exact HR.out.1 rfl | exact HR.out.1 trivial),hn,hk⟩
                clear hn hk
                go_wp2_with fail
                go_meet
                exact ⟨⟨true,rfl,fun _=>HA.out,fun _=>rfl⟩,kzc⟩
              · have dk:((T.kids.length:Int)==0)=false:=by rw [beq_eq_false_iff_ne];omega
                have HA:Hid (¬ (T.k=2∧okR T.c∧noneB T=true∧T.kids.length=0)):=fun h=>hk h.2.2.2;clear hn hk
                go_wp2_with fail
                go_meet
                exact ⟨⟨false,rfl,(fun h=>by cases h),fun h=>absurd h HA.out⟩,kzc⟩
          · have d2:(T.k==2)=false:=by rw [beq_eq_false_iff_ne];exact e2
            have HA:Hid (¬ (T.k=2∧okR T.c∧noneB T=true∧T.kids.length=0)):=fun h=>e2 h.1;clear e2
            go_wp2_with fail
            go_meet
            exact ⟨⟨false,rfl,(fun h=>by cases h),fun h=>absurd h HA.out⟩,kz1⟩
         case rest=>
          obtain ⟨⟨q2,rfl,hq2⟩,kz2⟩:=hcut;generalize wc=wz2 at *;have HQ2:Hid (q2=true↔(T.k=2∧okR T.c∧noneB T=true∧T.kids.length=0)):=hq2;clear hq2
          cases q2 with
          | true=>
           have HI:Hid (refI (refF L) (most - c) T=some (0,0)):=refI_ch (HQ2.out.1 rfl);have HL2:Hid (refL (refF L) most t.kids (0,(t.kids.length:Int))=refL (refF L) most (t.kids.drop (i+1)) (d,c)):=by unfold Hid;rw [HST.out,HI.out];simp only;rw [show max d 0=d by omega,Int.add_zero]
           clear HST HIN;go_wp2
           go_roundw
           case rel=>exact ⟨i+1,d,c,rfl,rfl,by go_num,by omega,hd1,hd2,hc1,hc2,HL2,hbx.trans (kz2.mono (by omega))⟩
           case measure=>simp [intOf];omega
          | false=>
           have HN2:Hid (¬ (T.k=2∧okR T.c∧noneB T=true∧T.kids.length=0)):=fun h=>by have:=HQ2.out.2 h;cases this
           clear HQ2
           go_upto_region 17 with fail
           go_cut [94] from 95 to 120 (fun q wz=>CutP (T.k=3∧T.kids.length=1∧noneB T=true∧T.c=0∧simpR (T.kids.getD 0 tr0)=false) q∧Below wx.heap.size wx wz)
           case first=>
            have NZ:=NX.below kz2 (by omega);have m0:=NZ.cell 0 rfl;have m1:=NZ.cell 1 rfl;have m2:=NZ.cell 2 rfl;have m3:=NZ.cell 3 rfl;have m4:=NZ.cell 4 rfl;have m5:=NZ.cell 5 rfl;by_cases e3:T.k=3
            · have d3:(T.k==3)=true:=by rw [beq_iff_eq];exact e3
              have H3:Hid (T.k=3):=e3;clear e3;by_cases hk:T.kids.length=1
              · have dk:((T.kids.length:Int)==1)=true:=by rw [beq_iff_eq];omega
                have HK:Hid (T.kids.length=1):=hk;have hpos:0<T.kids.length:=by omega
                clear hk
                go_wp2_with fail
                refine (noNum_any T.k T.b a1 T.ns.length c1 a2 T.ds.length c2 T.c a3 T.kids.length c3 _ hl1 hl2).mono ?_;rintro e wc ⟨rfl,hwc⟩;have kc:=below_alloc wz2 (.cells #[.int .u8 T.k,.bool T.b,.slice a1 T.ns.length c1,.slice a2 T.ds.length c2,.int .i32 T.c,.slice a3 T.kids.length c3] 113);rw [← hwc] at kc;clear hwc m0 m1 m2 m3 m4 m5;have kzc:Below wx.heap.size wx wc:=kz2.trans (kc.mono kz2.size);have NC:=NX.below kzc (by omega);have m4:=NC.cell 4 rfl;have m5:=NC.cell 5 rfl;have hN:noneB T=(!T.b && decide (T.ns.length=0) && decide (T.ds.length=0)):=rfl;rw [← hN];clear hN
                cases hn:noneB T with
                | false=>
                 have HA:Hid (¬ (T.k=3∧T.kids.length=1∧noneB T=true∧T.c=0∧simpR (T.kids.getD 0 tr0)=false)):=fun h=>by rw [hn] at h;cases h.2.2.1
                 clear hn
                 go_wp2_with fail
                 go_meet
                 exact ⟨⟨false,rfl,(fun h=>by cases h),fun h=>absurd h HA.out⟩,kzc⟩
                | true=>
                 have HN:Hid (noneB T=true):=hn;clear hn;by_cases hcc:T.c=0
                 · have dc:(T.c==0)=true:=by rw [beq_iff_eq];exact hcc
                   have HC:Hid (T.c=0):=hcc;clear hcc;obtain ⟨gy,oy,rfl,hgy,hcy⟩:=HIT.out.bx.ptr hpos;obtain ⟨u1,l1,s1,u2,l2,s2,t1,t2,hAr⟩:=hcy 0 hpos;rw [Nat.zero_mul,Nat.add_zero] at t1 t2;have T1:=(kzc.cell (p:=⟨gy,oy,none⟩) (hDx gy hgy)).trans t1;have T2:=(kzc.cell (p:=⟨gy,oy+1,none⟩) (hDx gy hgy)).trans t2;have HAR:Hid (ArV f D wc (.slice u1 l1 s1) (.slice u2 l2 s2) (T.kids.getD 0 tr0)):=hAr.agree (Agree.of kzc hDx);clear hcy t1 t2 hAr;obtain ⟨f2,rfl⟩:∃ f',f=f'+1:=by
                    cases f with
                    | zero=>exact HAR.out.elim
                    | succ f=>exact ⟨f,rfl⟩
                   go_wp2_with fail
                   refine (refIsSimple_any HAR.out (fun g hg=>by have:=hDx g hg;have:=kzc.size;omega)).mono ?_;rintro e wd ⟨rfl,hwd⟩;have kd:=below_alloc wc (.cells #[.slice u1 l1 s1,.slice u2 l2 s2] 29);rw [← hwd] at kd;clear hwd;have kzd:Below wx.heap.size wx wd:=kzc.trans (kd.mono kzc.size)
                   cases hs:simpR (T.kids.getD 0 tr0) with
                   | true=>
                    have HA:Hid (¬ (T.k=3∧T.kids.length=1∧noneB T=true∧T.c=0∧simpR (T.kids.getD 0 tr0)=false)):=fun h=>by rw [hs] at h;cases h.2.2.2.2
                    clear hs
                    go_wp2_with fail
                    go_meet
                    exact ⟨⟨false,rfl,(fun h=>by cases h),fun h=>absurd h HA.out⟩,kzd⟩
                   | false=>
                    have HA:Hid (T.k=3∧T.kids.length=1∧noneB T=true∧T.c=0∧simpR (T.kids.getD 0 tr0)=false):=⟨H3.out,HK.out,HN.out,HC.out,hs⟩;clear hs
                    go_wp2_with fail
                    go_meet
                    exact ⟨⟨true,rfl,fun _=>HA.out,fun _=>rfl⟩,kzd⟩
                 · have dc:(T.c==0)=false:=by rw [beq_eq_false_iff_ne];exact hcc
                   have HA:Hid (¬ (T.k=3∧T.kids.length=1∧noneB T=true∧T.c=0∧simpR (T.kids.getD 0 tr0)=false)):=fun h=>hcc h.2.2.2.1;clear hcc
                   go_wp2_with fail
                   go_meet
                   exact ⟨⟨false,rfl,(fun h=>by cases h),fun h=>absurd h HA.out⟩,kzc⟩
              · have dk:((T.kids.length:Int)==1)=false:=by rw [beq_eq_false_iff_ne];omega
                have HA:Hid (¬ (T.k=3∧T.kids.length=1∧noneB T=true∧T.c=0∧simpR (T.kids.getD 0 tr0)=false)):=fun h=>hk h.2.1;clear hk
                go_wp2_with fail
                go_meet
                exact ⟨⟨false,rfl,(fun h=>by cases h),fun h=>absurd h HA.out⟩,kz2⟩
            · have d3:(T.k==3)=false:=by rw [beq_eq_false_iff_ne];exact e3
              have HA:Hid (¬ (T.k=3∧T.kids.length=1∧noneB T=true∧T.c=0∧simpR (T.kids.getD 0 tr0)=false)):=fun h=>e3 h.1;clear e3
              go_wp2_with fail
              go_meet
              exact ⟨⟨false,rfl,(fun h=>by cases h),fun h=>absurd h HA.out⟩,kz2⟩
           case rest=>
            obtain ⟨⟨q3,rfl,hq3⟩,kz3⟩:=hcut;generalize wc=wz3 at *;have HQ3:Hid (q3=true↔(T.k=3∧T.kids.length=1∧noneB T=true∧T.c=0∧simpR (T.kids.getD 0 tr0)=false)):=hq3;clear hq3
            cases q3 with
            | false=>
             have HI:Hid (refI (refF L) (most - c) T=none):=refI_no HN1.out HN2.out (fun h=>by have:=HQ3.out.2 h;cases this);have HF:Hid (refF (L+1) t most=none):=by unfold Hid;rw [HE.out,HST.out,HI.out];rfl
             clear HST HIN;go_wp2
             go_ret3
             exact ⟨by rw [HF.out];rfl,g.trans ((hbx.trans (kz3.mono (by omega))).mono (by omega))⟩
            | true=>
             have hA3:=HQ3.out.1 rfl;have HI:Hid (refI (refF L) (most - c) T=refF L (T.kids.getD 0 tr0) (most - c)):=refI_box hA3;have hpos:0<T.kids.length:=by have:=hA3.2.1;omega
             clear hA3 HQ3;obtain ⟨gy,oy,rfl,hgy,hcy⟩:=HIT.out.bx.ptr hpos;obtain ⟨u1,l1,s1,u2,l2,s2,t1,t2,hAr⟩:=hcy 0 hpos;rw [Nat.zero_mul,Nat.add_zero] at t1 t2;have T1:=(kz3.cell (p:=⟨gy,oy,none⟩) (hDx gy hgy)).trans t1;have T2:=(kz3.cell (p:=⟨gy,oy+1,none⟩) (hDx gy hgy)).trans t2;have HAR:Hid (ArV f D wz3 (.slice u1 l1 s1) (.slice u2 l2 s2) (T.kids.getD 0 tr0)):=hAr.agree (Agree.of kz3 hDx);clear hcy t1 t2 hAr;have NC:=NX.below kz3 (by omega);have m5:=NC.cell 5 rfl;have hin:=HIN.out T (most - c) (by omega)
             go_wp2_with fail
             refine (HM.out f D wz3 u1 l1 s1 u2 l2 s2 (T.kids.getD 0 tr0) (deep+1) (most - c) (by have:=HDP.out;push_cast at this;omega) (by omega) (by omega) (fun g hg=>by have:=hDx g hg;have:=kz3.size;omega) HAR.out).mono ?_;rintro e wm ⟨he,km⟩;rw [← HI.out] at he;have kzm:Below wx.heap.size wx wm:=kz3.trans (km.mono kz3.size)
             cases ho:refI (refF L) (most - c) T with
             | none=>
              have HF:Hid (refF (L+1) t most=none):=by unfold Hid;rw [HE.out,HST.out,ho];rfl
              rw [ho] at he;unfold rEnd at he;dsimp only [Option.getD_none,Option.isSome_none] at he;subst he;clear HST HIN ho hin;go_wp2
              go_ret3
              exact ⟨by rw [HF.out];rfl,g.trans ((hbx.trans (kzm.mono (by omega))).mono (by omega))⟩
             | some q=>
              have hq:=hin q ho;obtain ⟨b1,b2⟩:=q;have HL2:Hid (refL (refF L) most t.kids (0,(t.kids.length:Int))=refL (refF L) most (t.kids.drop (i+1)) (max d b1,c+b2)):=by unfold Hid;rw [HST.out,ho]
              rw [ho] at he;unfold rEnd at he;dsimp only [Option.getD_some,Option.isSome_some] at he;subst he;simp only at hq;clear HST HIN ho hin;by_cases hg1:d<b1
              · have HMx:Hid (max d b1=b1):=by unfold Hid;omega
                go_wp2
                go_roundw
                case rel=>exact ⟨i+1,b1,c+b2,rfl,by go_num,by go_num,by omega,by omega,by omega,by omega,by omega,(by unfold Hid;rw [HL2.out,HMx.out]),hbx.trans (kzm.mono (by omega))⟩
                case measure=>simp [intOf];omega
              · have HMx:Hid (max d b1=d):=by unfold Hid;omega
                go_wp2
                go_roundw
                case rel=>exact ⟨i+1,d,c+b2,rfl,by go_num,by go_num,by omega,by omega,by omega,by omega,by omega,(by unfold Hid;rw [HL2.out,HMx.out]),hbx.trans (kzm.mono (by omega))⟩
                case measure=>simp [intOf];omega
     · have HF:Hid (refF (L+1) t most=some (if simpR t=true then d else d+1,c)):=by
        unfold Hid;rw [HE.out,HL.out,refL_end (by omega)];rfl
       go_wp2_with fail
       refine (refIsSimple_any (H.out.agree (Agree.of gr HD.out)) (fun g hg=>by have:=HD.out g hg;omega)).mono ?_;rintro e ws ⟨rfl,hws⟩;have ks:=below_alloc wr (.cells #[.slice x1 t.ns.length y1,.slice x2 t.kids.length y2] 29);rw [← hws] at ks;clear hws;have dmc:decide (c≤most)=true:=decide_eq_true hc2
       cases hs:simpR t with
       | true=>
        have HF2:Hid (refF (L+1) t most=some (d,c)):=by unfold Hid;rw [HF.out,hs];rfl
        clear hs HF;go_wp2
        go_ret3
        exact ⟨by rw [HF2.out];rfl,gr.trans (ks.mono (by omega))⟩
       | false=>
        have HF2:Hid (refF (L+1) t most=some (d+1,c)):=by unfold Hid;rw [HF.out,hs];rfl
        clear hs HF;go_wp2
        go_ret3
        exact ⟨by rw [HF2.out];rfl,gr.trans (ks.mono (by omega))⟩
end
end Go.Proofs.YtimfnalpmmkndaaGreatDoor
