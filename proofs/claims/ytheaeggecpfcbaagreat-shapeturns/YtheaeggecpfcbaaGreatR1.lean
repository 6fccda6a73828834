/- The document's Size, IsSimple, IsChar, noNum. -/
import Derived.Test.YtheaeggecpfcbaaGreatK8
import Derived.Test.YtheaeggecpfcbaaGreatJ6
set_option maxRecDepth 100000
set_option maxHeartbeats 1600000
set_option linter.unusedVariables false
set_option linter.unusedSimpArgs false
namespace Go.Proofs.YtheaeggecpfcbaaGreat
section
open Go.RowKit
theorem lo_neg {sh:List Int}:(∃ x∈sh,x<0)→loF sh<0:=fun ⟨x,hx,h⟩=>by
 have:=(foldl_lo sh 1).2 x hx;unfold loF;omega
theorem foldl_lo_get:∀ (l:List Int) (a:Int),l.foldl min a=a∨l.foldl min a∈l
 | [],a=>Or.inl rfl
 | y :: l,a=>by
  rw [List.foldl_cons];rcases foldl_lo_get l (min a y) with h | h
  · rw [h]
    by_cases c:a≤y
    · exact Or.inl (by omega)
    · exact Or.inr (by rw [show min a y=y by omega];simp)
  · exact Or.inr (by simp [h])
theorem foldl_hi_get:∀ (l:List Int) (a:Int),l.foldl max a=a∨l.foldl max a∈l
 | [],a=>Or.inl rfl
 | y :: l,a=>by
  rw [List.foldl_cons];rcases foldl_hi_get l (max a y) with h | h
  · rw [h]
    by_cases c:y≤a
    · exact Or.inl (by omega)
    · exact Or.inr (by rw [show max a y=y by omega];simp)
  · exact Or.inr (by simp [h])
theorem lo_ok {sh:List Int} (h:∀ x∈sh,0≤x):¬ loF sh<0∧(loF sh=0↔0∈sh):=by
 unfold loF;have hl:=foldl_lo sh 1;rcases foldl_lo_get sh 1 with e | e
 · refine ⟨by omega,fun h0=>by omega,fun h0 => ?_⟩
   have:=hl.2 0 h0;omega
 · have:=h _ e
   refine ⟨by omega,fun h0=>by rw [← h0];exact e,fun h0 => ?_⟩;have:=hl.2 0 h0;omega
theorem hi_ok {sh:List Int}:4096<hiF sh↔∃ x∈sh,4096<x:=by
 unfold hiF;have hl:=foldl_hi sh 1;rcases foldl_hi_get sh 1 with e | e
 · refine ⟨fun h=>by omega,fun ⟨x,hx,h⟩ => ?_⟩
   have:=hl.2 x hx;omega
 · exact ⟨fun h=>⟨_,e,h⟩,fun ⟨x,hx,h⟩=>by have:=hl.2 x hx;omega⟩
section
variable {D:Nat→Prop} {w:World} {a:Option Addr} {c:Nat} {sh:List Int}
theorem refSize3_any (h:RdN D w (.slice a sh.length c) sh) (hD:∀ g,D g→g<w.heap.size) :
    Calls Tryz.prog 70 #[.slice a sh.length c] w fun e w'=>e=.returned (.tuple #[.int .i64 (sizeF sh).1,.int .i64 (sizeF sh).2])∧w'=w:=by
 have bd:=h.bounds;have HH:Hid (RdN D w (.slice a sh.length c) sh):=h;clear h hD;go_enter Tryz.func70,Tryz.ntmps70;by_cases h8:8<sh.length
 · have HF:Hid (sizeF sh=(0,4)):=by unfold Hid sizeF;rw [if_pos h8]
   go_wp2
   go_ret2
   exact ⟨by rw [HF.out];rfl,rfl⟩
 go_wp2
 go_loopw [4,5,6] (fun nv gv iv wr=>∃ (i:Nat) (N G:Bool),nv=.bool N∧gv=.bool G∧iv=.int .i64 i∧i≤sh.length∧Hid (N=true↔0∈sh.take i)∧Hid (G=true↔∃ x∈sh.take i,4096<x)∧Hid (∀ x∈sh.take i,0≤x)∧wr=w) (fun _ _ iv _=>sh.length - (intOf iv).toNat)
 case atStart=>exact ⟨0,false,false,rfl,rfl,rfl,Nat.zero_le _,by unfold Hid;simp,by unfold Hid;simp,by unfold Hid;simp,rfl⟩
 case round=>
  obtain ⟨i,N,G,rfl,rfl,rfl,hil,HN,HG,HP,hwr⟩:=hrel;subst hwr;by_cases hlt:i<sh.length
  · obtain ⟨g,o,rfl,hg,hc⟩:=HH.out.ptr (by omega)
    have q:=hc i hlt;have HX:Hid (sh.take (i+1)=sh.take i++[sh.getD i 0]):=by unfold Hid;rw [← List.take_append_getElem hlt];simp [List.getD,hlt]
    have HM:Hid (sh.getD i 0∈sh):=by unfold Hid;simp [List.getD,hlt]
    clear hc;generalize sh.getD i 0=X at *;by_cases hneg:X<0
    · have HF:Hid (sizeF sh=(0,3)):=by unfold Hid sizeF;rw [if_neg h8,if_pos (lo_neg ⟨X,HM.out,hneg⟩)]
      go_wp2
      go_ret2
      exact ⟨by rw [HF.out];rfl,rfl⟩
    · have HP2:Hid (∀ x∈sh.take (i+1),0≤x):=by
       unfold Hid;rw [HX.out];intro x hx;rcases List.mem_append.1 hx with hx | hx
       · exact HP.out x hx
       · rw [List.mem_singleton.1 hx];omega
      have HN2:∀ b,b=(N || decide (X=0))→Hid (b=true↔0∈sh.take (i+1)):=fun b hb=>by
       unfold Hid;rw [HX.out,hb,List.mem_append,← HN.out,List.mem_singleton];simp only [Bool.or_eq_true,decide_eq_true_eq];exact ⟨fun h=>h.imp id Eq.symm,fun h=>h.imp id Eq.symm⟩
      have HG2:∀ b,b=(G || decide (4096<X))→Hid (b=true↔∃ x∈sh.take (i+1),4096<x):=fun b hb=>by
       unfold Hid;rw [HX.out,hb];simp only [Bool.or_eq_true,decide_eq_true_eq,List.mem_append,List.mem_singleton];constructor
       · rintro (h | h)
         · obtain ⟨x,hx,h2⟩:=HG.out.1 h
           exact ⟨x,Or.inl hx,h2⟩
         · exact ⟨X,Or.inr rfl,h⟩
       · rintro ⟨x,hx | rfl,h2⟩
         · exact Or.inl (HG.out.2 ⟨x,hx,h2⟩)
         · exact Or.inr h2
      have HNH:Hid (∀ b,b=(N || decide (X=0))→Hid (b=true↔0∈sh.take (i+1))):=HN2
      have HGH:Hid (∀ b,b=(G || decide (4096<X))→Hid (b=true↔∃ x∈sh.take (i+1),4096<x)):=HG2
      clear HN2 HG2
      cases N <;> cases G <;> by_cases hz:X=0 <;> by_cases hbg:4096<X
      all_goals
       first
        | (have dz:(X==0)=true:=by rw [beq_iff_eq];exact hz)
        | (have dz:(X==0)=false:=by rw [beq_eq_false_iff_ne];exact hz)
       first
        | (exfalso;omega)
        | (have HZ:Hid (X=0):=hz
           clear hz;go_wp2
           go_roundw
           case rel=>exact ⟨i+1,_,_,rfl,rfl,by go_num,by omega,HNH.out _ (by simp [HZ.out]),HGH.out _ (by simp [hbg]),HP2,(by first | rfl | trivial)⟩
           case measure=>simp [intOf];omega)
        | (have HZ:Hid (¬ X=0):=hz
           clear hz;go_wp2
           go_roundw
           case rel=>exact ⟨i+1,_,_,rfl,rfl,by go_num,by omega,HNH.out _ (by simp [HZ.out]),HGH.out _ (by simp [hbg]),HP2,(by first | rfl | trivial)⟩
           case measure=>simp [intOf];omega)
  · have HNN:Hid (N=true↔0∈sh):=by have:=HN.out;rw [List.take_of_length_le (by omega)] at this;exact this
    have HGG:Hid (G=true↔∃ x∈sh,4096<x):=by have:=HG.out;rw [List.take_of_length_le (by omega)] at this;exact this
    have HPP:Hid (∀ x∈sh,0≤x):=by have:=HP.out;rw [List.take_of_length_le (by omega)] at this;exact this
    have hlo:=lo_ok HPP.out
    cases G with
    | true=>
     have HF:Hid (sizeF sh=(0,8)):=by unfold Hid sizeF;rw [if_neg h8,if_neg hlo.1,if_pos (hi_ok.2 (HGG.out.1 rfl))]
     clear hlo;go_wp2
     go_ret2
     exact ⟨by rw [HF.out];rfl,rfl⟩
    | false=>
     have hng:¬ 4096<hiF sh:=fun h=>by have:=HGG.out.2 (hi_ok.1 h);cases this
     cases N with
     | true=>
      have HF:Hid (sizeF sh=(0,0)):=by unfold Hid sizeF;rw [if_neg h8,if_neg hlo.1,if_neg hng,if_pos (hlo.2.2 (HNN.out.1 rfl))]
      clear hlo hng;go_wp2
      go_ret2
      exact ⟨by rw [HF.out];rfl,rfl⟩
     | false=>
      have hnz:¬ loF sh=0:=fun h=>by have:=HNN.out.2 (hlo.2.1 h);cases this
      have HF:Hid (sizeF sh=match prodF sh 1 with | some n=>(n,0) | none=>(0,8)):=by unfold Hid sizeF;rw [if_neg h8,if_neg hlo.1,if_neg hng,if_neg hnz];cases prodF sh 1 <;> rfl
      have HIN:Hid (∀ x∈sh,1≤x∧x≤4096):=fun x hx=>by
       have a1:=HPP.out x hx;have a2:¬ x=0:=fun e=>hnz (hlo.2.2 (by rw [← e];exact hx));have a3:¬ 4096<x:=fun e=>hng (hi_ok.2 ⟨x,hx,e⟩);omega
      clear hlo hng hnz;go_wp2
      go_loopw [7,8] (fun sv iv wr2=>∃ (i:Nat) (S:Int),sv=.int .i64 S∧iv=.int .i64 i∧i≤sh.length∧1≤S∧S≤4096∧Hid (prodF sh 1=prodF (sh.drop i) S)∧wr2=wr) (fun _ iv _=>sh.length - (intOf iv).toNat)
      case atStart=>exact ⟨0,1,rfl,rfl,Nat.zero_le _,by omega,by omega,rfl,rfl⟩
      case round=>
       obtain ⟨i,S,rfl,rfl,hil,h1,h2,HPr,hwr⟩:=hrel;subst hwr;by_cases hlt:i<sh.length
       · obtain ⟨g,o,rfl,hg,hc⟩:=HH.out.ptr (by omega)
         have q:=hc i hlt;have hx:=HIN.out (sh.getD i 0) (by simp [List.getD,hlt]);have HQ:Hid (prodF (sh.drop i) S=if 4096<S*sh.getD i 0 then none else prodF (sh.drop (i+1)) (S*sh.getD i 0)):=by
          unfold Hid;rw [List.drop_eq_getElem_cons hlt,prodF];simp [List.getD,hlt]
         clear hc;generalize sh.getD i 0=X at *;have hb:=mulLen h1 h2 hx.1 hx.2;by_cases hbig:4096<S*X
         · have HNx:Hid (prodF sh 1=none):=by unfold Hid;rw [HPr.out,HQ.out,if_pos hbig]
           go_wp2
           go_ret2
           exact ⟨by rw [HF.out,HNx.out];rfl,rfl⟩
         · have HNx:Hid (prodF sh 1=prodF (sh.drop (i+1)) (S*X)):=by unfold Hid;rw [HPr.out,HQ.out,if_neg hbig]
           go_wp2
           go_roundw
           case rel=>exact ⟨i+1,S*X,by go_num,by go_num,by omega,hb.1,by omega,HNx,(by first | rfl | trivial)⟩
           case measure=>simp [intOf];omega
       · have HNx:Hid (prodF sh 1=some S):=by
          unfold Hid;rw [HPr.out,List.drop_eq_nil_of_le (by omega),prodF]
         go_wp2
         go_ret2
         exact ⟨by rw [HF.out,HNx.out];rfl,rfl⟩
theorem refIsChar_any (c:Int) (w:World):Calls Tryz.prog 72 #[.int .i32 c] w fun e w'=>TellsRune c e∧w'=w:=by
 go_enter Tryz.func72,Tryz.ntmps72;by_cases h1:0≤c
 · by_cases h2:c≤1114111
   · by_cases h3:c<55296
     · go_wp2
       go_ret
       exact ⟨⟨true,rfl,fun _=>Or.inl ⟨h1,h3⟩,fun _=>rfl⟩,rfl⟩
     · by_cases h4:57343<c
       · go_wp2
         go_ret
         exact ⟨⟨true,rfl,fun _=>Or.inr ⟨h4,h2⟩,fun _=>rfl⟩,rfl⟩
       · go_wp2
         go_ret
         exact ⟨⟨false,rfl,(fun h=>by cases h),fun h=>by unfold okR at h;omega⟩,rfl⟩
   · go_wp2
     go_ret
     exact ⟨⟨false,rfl,(fun h=>by cases h),fun h=>by unfold okR at h;omega⟩,rfl⟩
 · go_wp2
   go_ret
   exact ⟨⟨false,rfl,(fun h=>by cases h),fun h=>by unfold okR at h;omega⟩,rfl⟩
theorem noNum_any (k:Int) (b:Bool) (a1:Option Addr) (n1 c1:Nat) (a2:Option Addr) (n2 c2:Nat) (ch:Int) (a3:Option Addr) (n3 c3:Nat) (w:World) (h1:n1≤9223372036854775807) (h2:n2≤9223372036854775807) :
    Calls Tryz.prog 73 #[.agg #[.int .u8 k,.bool b,.slice a1 n1 c1,.slice a2 n2 c2,.int .i32 ch,.slice a3 n3 c3]] w fun e w'=>e=.returned (.bool (!b && decide (n1=0) && decide (n2=0)))∧w'=w.alloc (.cells #[.int .u8 k,.bool b,.slice a1 n1 c1,.slice a2 n2 c2,.int .i32 ch,.slice a3 n3 c3] 68):=by
 have X:=boxA_new w #[.int .u8 k,.bool b,.slice a1 n1 c1,.slice a2 n2 c2,.int .i32 ch,.slice a3 n3 c3] 68;have x1:=X.cell 1 rfl;have x2:=X.cell 2 rfl;have x3:=X.cell 3 rfl;go_enter Tryz.func73,Tryz.ntmps73
 cases b with
 | true=>
  go_wp2
  go_ret
  exact ⟨rfl,rfl⟩
 | false=>
  by_cases e1:n1=0
  · have d1:((n1:Int)==0)=true:=by rw [beq_iff_eq];omega
    by_cases e2:n2=0
    · have d2:((n2:Int)==0)=true:=by rw [beq_iff_eq];omega
      have HQ:Hid ((!false && decide (n1=0) && decide (n2=0))=true):=by unfold Hid;rw [decide_eq_true e1,decide_eq_true e2];rfl
      clear e1 e2;go_wp2
      go_ret
      exact ⟨by rw [HQ.out];rfl,rfl⟩
    · have d2:((n2:Int)==0)=false:=by rw [beq_eq_false_iff_ne];omega
      have HQ:Hid ((!false && decide (n1=0) && decide (n2=0))=false):=by unfold Hid;rw [decide_eq_true e1,decide_eq_false e2];rfl
      clear e1 e2;go_wp2
      go_ret
      exact ⟨by rw [HQ.out];rfl,rfl⟩
  · have d1:((n1:Int)==0)=false:=by rw [beq_eq_false_iff_ne];omega
    have HQ:Hid ((!false && decide (n1=0) && decide (n2=0))=false):=by unfold Hid;rw [decide_eq_false e1];rfl
    clear e1;go_wp2
    go_ret
    exact ⟨by rw [HQ.out];rfl,rfl⟩
/-- The document's IsSimple: an item that is no box. -/
def simpR (t:Tr):Bool:=decide (t.ns.length=0) && decide (t.kids.length=1) && decide (¬ (t.kids.getD 0 tr0).k=3)
end
theorem refIsSimple_any {D:Nat→Prop} {f:Nat} {W:World} {x1:Option Addr} {n1 y1:Nat} {x2:Option Addr} {n2 y2:Nat} {t:Tr} (h:ArV (f+1) D W (.slice x1 n1 y1) (.slice x2 n2 y2) t) (hD:∀ g,D g→g<W.heap.size) :
    Calls Tryz.prog 74 #[.agg #[.slice x1 n1 y1,.slice x2 n2 y2]] W fun e w'=>e=.returned (.bool (simpR t))∧w'=W.alloc (.cells #[.slice x1 n1 y1,.slice x2 n2 y2] 25):=by
 obtain rfl:=h.1.len;obtain rfl:=h.2.len;have bd1:=h.1.bounds;have bd2:=h.2.bounds;have X:=boxA_new W #[.slice x1 t.ns.length y1,.slice x2 t.kids.length y2] 25;have k:=below_alloc W (.cells #[.slice x1 t.ns.length y1,.slice x2 t.kids.length y2] 25);have p0:=X.cell 0 rfl;have p1:=X.cell 1 rfl;go_enter Tryz.func74,Tryz.ntmps74;by_cases e1:t.ns.length=0
 · have d1:((t.ns.length:Int)==0)=true:=by rw [beq_iff_eq];omega
   by_cases e2:t.kids.length=1
   · have d2:((t.kids.length:Int)==1)=true:=by rw [beq_iff_eq];omega
     obtain ⟨g,o,rfl,hg,hc⟩:=h.2.ptr (by omega);obtain ⟨a1,c1,a2,c2,a3,c3,⟨z0,_⟩,_⟩:=hc 0 (by omega);rw [Nat.zero_mul,Nat.add_zero] at z0;have q0:=(k.cell (p:=⟨g,o,none⟩) (hD g hg)).trans z0;have HQ:Hid (simpR t=decide (¬ (t.kids.getD 0 tr0).k=3)):=by unfold Hid simpR;rw [decide_eq_true e1,decide_eq_true e2];rfl
     have hpos:0<t.kids.length:=by omega
     clear h hc z0 e1 e2;generalize (t.kids.getD 0 tr0).k=K at *;by_cases k1:K=3
     · have d3:(K != 3)=false:=by rw [bne_eq_false_iff_eq];exact k1
       have HR:Hid (simpR t=false):=by unfold Hid;rw [HQ.out];simp [k1]
       clear k1 HQ;go_wp2
       go_ret
       exact ⟨by rw [HR.out];rfl,rfl⟩
     · have d3:(K != 3)=true:=by rw [bne_iff_ne];exact k1
       have HR:Hid (simpR t=true):=by unfold Hid;rw [HQ.out];simp [k1]
       clear k1 HQ;go_wp2
       go_ret
       exact ⟨by rw [HR.out];rfl,rfl⟩
   · have d2:((t.kids.length:Int)==1)=false:=by rw [beq_eq_false_iff_ne];omega
     have HR:Hid (simpR t=false):=by unfold Hid simpR;rw [decide_eq_true e1,decide_eq_false e2];rfl
     clear e1 e2;go_wp2
     go_ret
     exact ⟨by rw [HR.out];rfl,rfl⟩
 · have d1:((t.ns.length:Int)==0)=false:=by rw [beq_eq_false_iff_ne];omega
   have HR:Hid (simpR t=false):=by unfold Hid simpR;rw [decide_eq_false e1];rfl
   clear e1;go_wp2
   go_ret
   exact ⟨by rw [HR.out];rfl,rfl⟩
end
section
open Go.RowKit
open Classical in
/-- An item's measure by the document, where M tells that of its array, with so many cells left. -/
noncomputable def refI (M:Tr→Int→Option (Int×Int)) (rest:Int) (t:Tr):Option (Int×Int):=
 if t.k=1∧RightP t.b t.ns t.ds∧t.c=0∧t.kids.length=0 then some (0,0)
 else if t.k=2∧okR t.c∧noneB t=true∧t.kids.length=0 then some (0,0)
 else if t.k=3∧t.kids.length=1∧noneB t=true∧t.c=0∧simpR (t.kids.getD 0 tr0)=false then M (t.kids.getD 0 tr0) rest
 else none
noncomputable def refL (M:Tr→Int→Option (Int×Int)) (most:Int):List Tr→Int×Int→Option (Int×Int)
 | [],w=>some w
 | t :: r,w=>match refI M (most - w.2) t with
  | none=>none
  | some p=>refL M most r (max w.1 p.1,w.2+p.2)
noncomputable def refF:Nat→Tr→Int→Option (Int×Int)
 | 0,_,_=>none
 | L+1,t,most=>if (sizeF t.ns).2=0∧(t.kids.length:Int)=max (sizeF t.ns).1 1∧(t.kids.length:Int)≤most then
     (match refL (refF L) most t.kids (0,(t.kids.length:Int)) with
      | none=>none
      | some p=>some (if simpR t=true then p.1 else p.1+1,p.2)) else none
def inR (L:Nat) (most:Int) (o:Option (Int×Int)):Prop:=∀ p,o=some p→0≤p.1∧p.1≤L∧0≤p.2∧p.2≤most
theorem refI_in {L:Nat} {M:Tr→Int→Option (Int×Int)} {rest:Int} (hr:0≤rest) (hM:∀ t,inR L rest (M t rest)) (t:Tr):inR L rest (refI M rest t):=by
 intro p hp;unfold refI at hp
 split at hp
 · cases hp;simp;omega
 split at hp
 · cases hp;simp;omega
 split at hp
 · exact hM _ p hp
 · cases hp
theorem refL_in {L:Nat} {M:Tr→Int→Option (Int×Int)} {most:Int} (hM:∀ t r,0≤r→inR L r (M t r)):∀ (l:List Tr) (w p:Int×Int),0≤w.1→w.1≤L→0≤w.2→w.2≤most→refL M most l w=some p→0≤p.1∧p.1≤L∧0≤p.2∧p.2≤most
 | [],w,p,h1,h2,h3,h4,h=>by rw [refL] at h;cases h;exact ⟨h1,h2,h3,h4⟩
 | t :: r,w,p,h1,h2,h3,h4,h=>by
  rw [refL] at h
  cases hi:refI M (most - w.2) t with
  | none=>rw [hi] at h;cases h
  | some q=>
   rw [hi] at h;have hq:=refI_in (by omega) (fun s=>hM s _ (by omega)) t q hi;exact refL_in hM r _ p (by simp only;omega) (by simp only;omega) (by simp only;omega) (by simp only;omega) h
theorem refF_in:∀ (L:Nat) (t:Tr) (most:Int),inR L most (refF L t most)
 | 0,t,most=>by intro p hp;rw [refF] at hp;cases hp
 | L+1,t,most=>by
  intro p hp;rw [refF] at hp;by_cases hc:(sizeF t.ns).2=0∧(t.kids.length:Int)=max (sizeF t.ns).1 1∧(t.kids.length:Int)≤most
  · rw [if_pos hc] at hp
    cases hl:refL (refF L) most t.kids (0,(t.kids.length:Int)) with
    | none=>rw [hl] at hp;cases hp
    | some q=>
     rw [hl] at hp;have:=refL_in (fun s r _=>refF_in L s r) t.kids _ q (by simp) (by simp) (by simp only;omega) (by simp only;omega) hl;simp only at hp
     cases hp
     refine ⟨?_,?_,this.2.2.1,this.2.2.2⟩
     · simp only;split <;> omega
     · simp only;split <;> (push_cast;omega)
  · rw [if_neg hc] at hp;cases hp
def rEnd (o:Option (Int×Int)):Ending:=.returned (.tuple #[.bool o.isSome,.int .i64 (o.getD (0,0)).1,.int .i64 (o.getD (0,0)).2])
/-- measure tells what it should, from so deep on. -/
def RMeasOK (L:Nat):Prop:=∀ (f:Nat) (D:Nat→Prop) (W:World) (x1:Option Addr) (n1 y1:Nat) (x2:Option Addr) (n2 y2:Nat) (t:Tr) (deep most:Int),deep=17 - (L:Int)→0≤most→most≤16384→(∀ g,D g→g<W.heap.size)→ArV f D W (.slice x1 n1 y1) (.slice x2 n2 y2) t →
 Calls Tryz.prog 39 #[.agg #[.slice x1 n1 y1,.slice x2 n2 y2],.int .i64 deep,.int .i64 most] W fun e w'=>e=rEnd (refF L t most)∧Below W.heap.size W w'
theorem refL_step {M:Tr→Int→Option (Int×Int)} {most:Int} {l:List Tr} {i:Nat} (hi:i<l.length) (w:Int×Int):refL M most (l.drop i) w=match refI M (most - w.2) (l.getD i tr0) with
    | none=>none
    | some p=>refL M most (l.drop (i+1)) (max w.1 p.1,w.2+p.2):=by
 rw [List.drop_eq_getElem_cons hi,refL];have e:l.getD i tr0=l[i]:=by simp [List.getD,hi]
 rw [e]
theorem refL_end {M:Tr→Int→Option (Int×Int)} {most:Int} {l:List Tr} {i:Nat} (hi:l.length≤i) (w:Int×Int):refL M most (l.drop i) w=some w:=by
 rw [List.drop_eq_nil_of_le hi,refL]
def finR (t:Tr) (o:Option (Int×Int)):Option (Int×Int):=match o with | none=>none | some p=>some (if simpR t=true then p.1 else p.1+1,p.2)
theorem refF_succ {L:Nat} {t:Tr} {most:Int} (hc:(sizeF t.ns).2=0∧(t.kids.length:Int)=max (sizeF t.ns).1 1∧(t.kids.length:Int)≤most):refF (L+1) t most=finR t (refL (refF L) most t.kids (0,(t.kids.length:Int))):=by
 rw [refF,if_pos hc];unfold finR
 cases refL (refF L) most t.kids (0,(t.kids.length:Int)) <;> rfl
section
variable {M:Tr→Int→Option (Int×Int)} {t:Tr} {rest:Int}
theorem refI_num (h:t.k=1∧RightP t.b t.ns t.ds∧t.c=0∧t.kids.length=0):refI M rest t=some (0,0):=by unfold refI;rw [if_pos h]
theorem refI_ch (h:t.k=2∧okR t.c∧noneB t=true∧t.kids.length=0):refI M rest t=some (0,0):=by unfold refI;rw [if_neg (by omega),if_pos h]
theorem refI_box (h:t.k=3∧t.kids.length=1∧noneB t=true∧t.c=0∧simpR (t.kids.getD 0 tr0)=false):refI M rest t=M (t.kids.getD 0 tr0) rest:=by unfold refI;rw [if_neg (by omega),if_neg (by omega),if_pos h]
theorem refI_no (h1:¬ (t.k=1∧RightP t.b t.ns t.ds∧t.c=0∧t.kids.length=0)) (h2:¬ (t.k=2∧okR t.c∧noneB t=true∧t.kids.length=0)) (h3:¬ (t.k=3∧t.kids.length=1∧noneB t=true∧t.c=0∧simpR (t.kids.getD 0 tr0)=false)):refI M rest t=none:=by unfold refI;rw [if_neg h1,if_neg h2,if_neg h3]
end
end
end Go.Proofs.YtheaeggecpfcbaaGreat
