/- Both ways of measuring an array are the same. -/
import Derived.Test.YtheaeggecpfcbaaGreatK9
import Derived.Test.YtheaeggecpfcbaaGreatR1
set_option linter.unusedVariables false
set_option linter.unusedSimpArgs false
namespace Go.Proofs.YtheaeggecpfcbaaGreat
section
open Go.RowKit
open Classical in
/-- An item's measure, without a bound on cells. -/
noncomputable def plI (M:Tr→Option (Int×Int)) (t:Tr):Option (Int×Int):=
 if t.k=1∧RightP t.b t.ns t.ds∧t.c=0∧t.kids.length=0 then some (0,0)
 else if t.k=2∧okR t.c∧noneB t=true∧t.kids.length=0 then some (0,0)
 else if t.k=3∧t.kids.length=1∧noneB t=true∧t.c=0∧simpR (t.kids.getD 0 tr0)=false then M (t.kids.getD 0 tr0)
 else none
noncomputable def plL (M:Tr→Option (Int×Int)):List Tr→Int×Int→Option (Int×Int)
 | [],w=>some w
 | t :: r,w=>match plI M t with
  | none=>none
  | some p=>plL M r (max w.1 p.1,w.2+p.2)
noncomputable def plF:Nat→Tr→Option (Int×Int)
 | 0,_=>none
 | L+1,t=>if (sizeF t.ns).2=0∧(t.kids.length:Int)=max (sizeF t.ns).1 1 then
     (match plL (plF L) t.kids (0,(t.kids.length:Int)) with
      | none=>none
      | some p=>some (if simpR t=true then p.1 else p.1+1,p.2)) else none
def upTo (m:Int) (o:Option (Int×Int)):Option (Int×Int):=match o with
 | none=>none
 | some p=>if p.2≤m then some p else none
def inP (L:Nat) (o:Option (Int×Int)):Prop:=∀ p,o=some p→0≤p.1∧p.1≤L∧1≤p.2
theorem plI_in {L:Nat} {M:Tr→Option (Int×Int)} (hM:∀ t,inP L (M t)) (t:Tr):∀ p,plI M t=some p→0≤p.1∧p.1≤L∧0≤p.2:=by
 intro p hp;unfold plI at hp
 split at hp
 · cases hp;simp
 split at hp
 · cases hp;simp
 split at hp
 · have:=hM _ p hp;omega
 · cases hp
theorem plL_in {L:Nat} {M:Tr→Option (Int×Int)} (hM:∀ t,inP L (M t)):∀ (l:List Tr) (w p:Int×Int),0≤w.1→w.1≤L→plL M l w=some p→0≤p.1∧p.1≤L∧w.2≤p.2∧w.1≤p.1
 | [],w,p,h1,h2,h=>by rw [plL] at h;cases h;exact ⟨h1,h2,Int.le_refl _,Int.le_refl _⟩
 | t :: r,w,p,h1,h2,h=>by
  rw [plL] at h
  cases hi:plI M t with
  | none=>rw [hi] at h;cases h
  | some q=>
   rw [hi] at h;have hq:=plI_in hM t q hi;have:=plL_in hM r _ p (by simp only;omega) (by simp only;omega) h;simp only at this;omega
theorem plF_in:∀ (L:Nat) (t:Tr),inP L (plF L t)
 | 0,t=>by intro p hp;rw [plF] at hp;cases hp
 | L+1,t=>by
  intro p hp;rw [plF] at hp;by_cases hc:(sizeF t.ns).2=0∧(t.kids.length:Int)=max (sizeF t.ns).1 1
  · rw [if_pos hc] at hp
    cases hl:plL (plF L) t.kids (0,(t.kids.length:Int)) with
    | none=>rw [hl] at hp;cases hp
    | some q=>
     rw [hl] at hp;have:=plL_in (plF_in L) t.kids _ q (by simp) (by simp) hl;simp only at hp this
     cases hp
     refine ⟨?_,?_,?_⟩
     · simp only;split <;> omega
     · simp only;split <;> (push_cast;omega)
     · simp only;omega
  · rw [if_neg hc] at hp;cases hp
/-- The document's measure: with a bound on cells. -/
theorem refI_pl {M:Tr→Int→Option (Int×Int)} {P:Tr→Option (Int×Int)} {rest:Int} (hr:0≤rest) (h:∀ t,M t rest=upTo rest (P t)) (t:Tr):refI M rest t=upTo rest (plI P t):=by
 unfold refI plI
 split
 · unfold upTo;simp only;rw [if_pos hr]
 split
 · unfold upTo;simp only;rw [if_pos hr]
 split
 · exact h _
 · rfl
theorem refL_pl {L:Nat} {M:Tr→Int→Option (Int×Int)} {P:Tr→Option (Int×Int)} (hP:∀ t,inP L (P t)) (most:Int) (h:∀ t r,0≤r→r≤most→M t r=upTo r (P t)):∀ (l:List Tr) (w:Int×Int),0≤w.1→w.1≤L→0≤w.2→w.2≤most→refL M most l w=upTo most (plL P l w)
 | [],w,h1,h2,h3,h4=>by rw [refL,plL];unfold upTo;simp only;rw [if_pos h4]
 | t :: r,w,h1,h2,h3,h4=>by
  rw [refL,plL,refI_pl (by omega) (fun s=>h s _ (by omega) (by omega)) t]
  cases hi:plI P t with
  | none=>rfl
  | some q=>
   have hq:=plI_in hP t q hi;unfold upTo;simp only;by_cases hc:q.2≤most - w.2
   · rw [if_pos hc]
     simp only;exact refL_pl hP most h r _ (by simp only;omega) (by simp only;omega) (by simp only;omega) (by simp only;omega)
   · rw [if_neg hc]
     simp only
     cases hl:plL P r (max w.1 q.1,w.2+q.2) with
     | none=>rfl
     | some p=>
      have:=plL_in hP r _ p (by simp only;omega) (by simp only;omega) hl;simp only at this ⊢;rw [if_neg (by omega)]
theorem refF_pl:∀ (L:Nat) (t:Tr) (most:Int),0≤most→refF L t most=upTo most (plF L t)
 | 0,t,most,h=>by rw [refF,plF];rfl
 | L+1,t,most,h=>by
  rw [refF,plF];by_cases hc:(sizeF t.ns).2=0∧(t.kids.length:Int)=max (sizeF t.ns).1 1
  · rw [if_pos hc]
    by_cases hm:(t.kids.length:Int)≤most
    · rw [if_pos ⟨hc.1,hc.2,hm⟩,refL_pl (plF_in L) most (fun s r h0 _=>refF_pl L s r h0) t.kids _ (by simp) (by simp) (by simp only;omega) hm]
      cases plL (plF L) t.kids (0,(t.kids.length:Int)) with
      | none=>rfl
      | some p=>
       unfold upTo;simp only;by_cases hp:p.2≤most
       · rw [if_pos hp,if_pos hp]
       · rw [if_neg hp,if_neg hp]
    · rw [if_neg (fun h=>hm h.2.2)]
      cases hl:plL (plF L) t.kids (0,(t.kids.length:Int)) with
      | none=>rfl
      | some p=>
       have:=plL_in (plF_in L) t.kids _ p (by simp) (by simp) hl;unfold upTo;simp only at this ⊢;rw [if_neg (by omega)]
  · rw [if_neg (fun h=>hc ⟨h.1,h.2.1⟩),if_neg hc];rfl
/-- An array that looks simple, but whose item is none, is not right. -/
theorem odd_none {P:Tr→Option (Int×Int)} {t:Tr} (h1:t.kids.length=1) (h2:¬ (t.kids.getD 0 tr0).k=1) (h3:¬ (t.kids.getD 0 tr0).k=2) (h4:¬ (t.kids.getD 0 tr0).k=3) (w:Int×Int):plL P t.kids w=none:=by
 obtain ⟨x,hx⟩:∃ x,t.kids=[x]:=List.length_eq_one_iff.1 h1;rw [hx] at h2 h3 h4 ⊢;rw [plL];simp only [List.getD_cons_zero] at h2 h3 h4;have:plI P x=none:=by unfold plI;rw [if_neg (fun h=>h2 h.1),if_neg (fun h=>h3 h.1),if_neg (fun h=>h4 h.1)]
 rw [this]
theorem simp_same {t:Tr} (h:¬ (t.kids.length=1∧¬ (t.kids.getD 0 tr0).k=1∧¬ (t.kids.getD 0 tr0).k=2∧¬ (t.kids.getD 0 tr0).k=3)):simpB t=simpR t:=by
 unfold simpB simpR;by_cases h1:t.kids.length=1
 · have h2:¬ (¬ (t.kids.getD 0 tr0).k=1∧¬ (t.kids.getD 0 tr0).k=2∧¬ (t.kids.getD 0 tr0).k=3):=fun e=>h ⟨h1,e⟩
   congr 1
   by_cases e1:(t.kids.getD 0 tr0).k=1
   · rw [e1];rfl
   · by_cases e2:(t.kids.getD 0 tr0).k=2
     · rw [e2];rfl
     · have e3:(t.kids.getD 0 tr0).k=3:=by omega
       rw [e3];rfl
 · rw [decide_eq_false h1];simp
theorem measI_pl {M P:Tr→Option (Int×Int)} (h:∀ t,M t=upTo 16384 (P t)) (hodd:∀ s,(s.kids.length=1∧¬ (s.kids.getD 0 tr0).k=1∧¬ (s.kids.getD 0 tr0).k=2∧¬ (s.kids.getD 0 tr0).k=3)→P s=none) (t:Tr):measI M t=upTo 16384 (plI P t):=by
 by_cases e1:t.k=1
 · by_cases hg:RightP t.b t.ns t.ds∧t.c=0∧t.kids.length=0
   · rw [measI_num e1 hg];unfold plI;rw [if_pos ⟨e1,hg⟩];rfl
   · rw [measI_num_no e1 hg];unfold plI;rw [if_neg (fun h=>hg h.2),if_neg (by omega),if_neg (by omega)];rfl
 by_cases e2:t.k=2
 · by_cases hg:okR t.c∧noneB t=true∧t.kids.length=0
   · rw [measI_ch e2 hg];unfold plI;rw [if_neg (by omega),if_pos ⟨e2,hg⟩];rfl
   · rw [measI_ch_no e2 hg];unfold plI;rw [if_neg (by omega),if_neg (fun h=>hg h.2),if_neg (by omega)];rfl
 by_cases e3:t.k=3
 · by_cases hb:noneB t=true∧t.c=0∧t.kids.length=1
   · by_cases ho:((t.kids.getD 0 tr0).kids.length=1∧¬ ((t.kids.getD 0 tr0).kids.getD 0 tr0).k=1∧¬ ((t.kids.getD 0 tr0).kids.getD 0 tr0).k=2∧¬ ((t.kids.getD 0 tr0).kids.getD 0 tr0).k=3)
     · have hn:=hodd _ ho
       have hr:plI P t=none:=by
        unfold plI;rw [if_neg (by omega),if_neg (by omega)]
        split
        · exact hn
        · rfl
       rw [hr];by_cases hs:simpB (t.kids.getD 0 tr0)=false
       · rw [measI_box e3 ⟨hb.1,hb.2.1,hb.2.2,hs⟩,h,hn]
       · rw [measI_box_no e3 (fun h=>hs h.2.2.2)];rfl
     · have hss:=simp_same ho
       by_cases hs:simpR (t.kids.getD 0 tr0)=false
       · rw [measI_box e3 ⟨hb.1,hb.2.1,hb.2.2,by rw [hss];exact hs⟩,h]
         unfold plI;rw [if_neg (by omega),if_neg (by omega),if_pos ⟨e3,hb.2.2,hb.1,hb.2.1,hs⟩]
       · rw [measI_box_no e3 (fun h=>hs (by rw [← hss];exact h.2.2.2))]
         unfold plI;rw [if_neg (by omega),if_neg (by omega),if_neg (fun h=>hs h.2.2.2.2)];rfl
   · rw [measI_box_no e3 (fun h=>hb ⟨h.1,h.2.1,h.2.2.1⟩)]
     unfold plI;rw [if_neg (by omega),if_neg (by omega),if_neg (fun h=>hb ⟨h.2.2.1,h.2.2.2.1,h.2.1⟩)];rfl
 rw [measI_else e1 e2 e3];unfold plI;rw [if_neg (fun h=>e1 h.1),if_neg (fun h=>e2 h.1),if_neg (fun h=>e3 h.1)];rfl
theorem measL_pl {L:Nat} {I P:Tr→Option (Int×Int)} (hP:∀ t,inP L (P t)) (h:∀ t,I t=upTo 16384 (plI P t)):∀ (l:List Tr) (d c:Int),0≤d→d≤L→0≤c→c≤16384→measL I l (d+1,c)=(upTo 16384 (plL P l (d,c))).map (fun p=>(p.1+1,p.2))
 | [],d,c,h1,h2,h3,h4=>by rw [measL,plL];unfold upTo;simp only;rw [if_pos h4];rfl
 | t :: r,d,c,h1,h2,h3,h4=>by
  rw [measL,plL,h t]
  cases hi:plI P t with
  | none=>rfl
  | some q=>
   have hq:=plI_in hP t q hi;unfold upTo;simp only;by_cases hc:c+q.2≤16384
   · rw [if_pos (by omega)]
     simp only;rw [if_neg (by omega),show max (d+1) (1+q.1)=max d q.1+1 by omega];exact measL_pl hP h r _ _ (by omega) (by omega) (by omega) hc
   · have hz:plL P r (max d q.1,c+q.2)=none∨∃ p,plL P r (max d q.1,c+q.2)=some p∧¬ p.2≤16384:=by
      cases hl:plL P r (max d q.1,c+q.2) with
      | none=>exact Or.inl rfl
      | some p=>
       have:=plL_in hP r _ p (by simp only;omega) (by simp only;omega) hl;simp only at this;exact Or.inr ⟨p,rfl,by omega⟩
     have hR:(match plL P r (max d q.1,c+q.2) with | none=>(none:Option (Int×Int)) | some p=>if p.2≤16384 then some p else none)=none:=by
      rcases hz with hz | ⟨p,hz,hp⟩
      · rw [hz]
      · rw [hz];simp only;rw [if_neg hp]
     by_cases hq2:q.2≤16384
     · rw [if_pos hq2]
       simp only;rw [if_pos (by omega)];exact (congrArg (Option.map (fun p:Int×Int=>(p.1+1,p.2))) hR).symm
     · rw [if_neg hq2]
       exact (congrArg (Option.map (fun p:Int×Int=>(p.1+1,p.2))) hR).symm
theorem plF_odd:∀ (L:Nat) (s:Tr),(s.kids.length=1∧¬ (s.kids.getD 0 tr0).k=1∧¬ (s.kids.getD 0 tr0).k=2∧¬ (s.kids.getD 0 tr0).k=3)→plF L s=none
 | 0,s,_=>by rw [plF]
 | L+1,s,⟨h1,h2,h3,h4⟩=>by
  rw [plF,odd_none h1 h2 h3 h4]
  split <;> rfl
/-- A simple scalar that is right has no depth. -/
theorem simp_zero {P:Tr→Option (Int×Int)} {t:Tr} {p:Int×Int} (hs:simpR t=true) (c:Int) (h:plL P t.kids (0,c)=some p):p.1=0:=by
 unfold simpR at hs;simp only [Bool.and_eq_true,decide_eq_true_eq] at hs;obtain ⟨x,hx⟩:∃ x,t.kids=[x]:=List.length_eq_one_iff.1 hs.1.2;rw [hx] at h hs;simp only [List.getD_cons_zero] at hs;rw [plL] at h
 cases hi:plI P x with
 | none=>rw [hi] at h;cases h
 | some q=>
  rw [hi] at h;simp only [plL] at h
  cases h
  unfold plI at hi
  split at hi
  · cases hi;simp
  split at hi
  · cases hi;simp
  split at hi
  · rename_i h3;exact absurd h3.1 hs.2
  · cases hi
theorem measF_pl:∀ (L:Nat) (t:Tr),measF L t=upTo 16384 (plF L t)
 | 0,t=>by rw [measF,plF];rfl
 | L+1,t=>by
  by_cases hc:(sizeF t.ns).2=0∧(t.kids.length:Int)=max (sizeF t.ns).1 1
  · have hs:=sizeF_in t.ns
    rw [measF_succ hc,plF,if_pos hc];have hm:=measL_pl (L:=L) (plF_in L) (measI_pl (measF_pl L) (plF_odd L)) t.kids 0 (t.kids.length:Int) (by omega) (by omega) (by omega) (by omega);rw [Int.zero_add] at hm;rw [hm]
    cases hl:plL (plF L) t.kids (0,(t.kids.length:Int)) with
    | none=>rfl
    | some p=>
     unfold upTo finM;simp only;by_cases hp:p.2≤16384
     · rw [if_pos hp,if_pos hp]
       simp only [Option.map_some];by_cases ho:(t.kids.length=1∧¬ (t.kids.getD 0 tr0).k=1∧¬ (t.kids.getD 0 tr0).k=2∧¬ (t.kids.getD 0 tr0).k=3)
       · rw [odd_none ho.1 ho.2.1 ho.2.2.1 ho.2.2.2] at hl;cases hl
       · rw [simp_same ho]
         by_cases hs2:simpR t=true
         · rw [if_pos hs2,if_pos hs2,simp_zero hs2 _ hl]
         · rw [if_neg hs2,if_neg hs2]
     · rw [if_neg hp,if_neg hp];rfl
  · rw [measF,if_neg hc,plF,if_neg hc];rfl
end
section
open Go.RowKit
theorem plI_mono {M P:Tr→Option (Int×Int)} (h:∀ t p,M t=some p→P t=some p) (t:Tr) (p:Int×Int) (hp:plI M t=some p):plI P t=some p:=by
 unfold plI at hp ⊢
 split at hp
 · rename_i h1;rw [if_pos h1];exact hp
 rename_i h1;rw [if_neg h1]
 split at hp
 · rename_i h2;rw [if_pos h2];exact hp
 rename_i h2;rw [if_neg h2]
 split at hp
 · rename_i h3;rw [if_pos h3];exact h _ p hp
 · cases hp
theorem plL_mono {M P:Tr→Option (Int×Int)} (h:∀ t p,M t=some p→P t=some p):∀ (l:List Tr) (w p:Int×Int),plL M l w=some p→plL P l w=some p
 | [],w,p,hp=>by rw [plL] at hp ⊢;exact hp
 | t :: r,w,p,hp=>by
  rw [plL] at hp ⊢
  cases hi:plI M t with
  | none=>rw [hi] at hp;cases hp
  | some q=>
   rw [hi] at hp;rw [plI_mono h t q hi];exact plL_mono h r _ p hp
theorem plF_mono:∀ (L:Nat) (t:Tr) (p:Int×Int),plF L t=some p→plF (L+1) t=some p
 | 0,t,p,h=>by rw [plF] at h;cases h
 | L+1,t,p,h=>by
  rw [plF] at h;rw [plF];by_cases hc:(sizeF t.ns).2=0∧(t.kids.length:Int)=max (sizeF t.ns).1 1
  · rw [if_pos hc] at h ⊢
    cases hl:plL (plF L) t.kids (0,(t.kids.length:Int)) with
    | none=>rw [hl] at h;cases h
    | some q=>
     rw [hl] at h;rw [plL_mono (plF_mono L) _ _ q hl];exact h
  · rw [if_neg hc] at h;cases h
theorem plL_less {B:Int} {M P:Tr→Option (Int×Int)} (h:∀ t p,simpR t=false→M t=some p→p.1≤B→P t=some p) {L:Nat} (hM:∀ t,inP L (M t)):∀ (l:List Tr) (w p:Int×Int),0≤w.1→w.1≤L→plL M l w=some p→p.1≤B→plL P l w=some p
 | [],w,p,_,_,hp,_=>by rw [plL] at hp ⊢;exact hp
 | t :: r,w,p,h1,h2,hp,hB=>by
  rw [plL] at hp ⊢
  cases hi:plI M t with
  | none=>rw [hi] at hp;cases hp
  | some q=>
   rw [hi] at hp;simp only at hp;have hq:=plI_in hM t q hi;have hin:=plL_in hM r _ p (by simp only;omega) (by simp only;omega) hp;simp only at hin;have hi2:plI P t=some q:=by
    unfold plI at hi ⊢
    split at hi
    · rename_i h1;rw [if_pos h1];exact hi
    rename_i h1;rw [if_neg h1]
    split at hi
    · rename_i h2;rw [if_pos h2];exact hi
    rename_i h2;rw [if_neg h2]
    split at hi
    · rename_i h3;rw [if_pos h3];exact h _ q h3.2.2.2.2 hi (by omega)
    · cases hi
   rw [hi2];exact plL_less h hM r _ p (by simp only;omega) (by simp only;omega) hp hB
theorem plF_less:∀ (L:Nat) (t:Tr) (p:Int×Int),1≤L→plF (L+1) t=some p→p.1≤L→plF L t=some p
 | 0,t,p,h,_,_=>by omega
 | L+1,t,p,_,h,hp=>by
  rw [plF] at h;rw [plF];by_cases hc:(sizeF t.ns).2=0∧(t.kids.length:Int)=max (sizeF t.ns).1 1
  · rw [if_pos hc] at h ⊢
    cases hl:plL (plF (L+1)) t.kids (0,(t.kids.length:Int)) with
    | none=>rw [hl] at h;cases h
    | some q=>
     rw [hl] at h;simp only at h;have hqL:q.1≤L:=by
      by_cases hs:simpR t=true
      · have:=simp_zero hs _ hl;omega
      · rw [if_neg hs] at h
        have e:(q.1+1,q.2)=p:=Option.some.inj h;rw [← e] at hp;simp only at hp
        push_cast at hp
        omega
     have hlow:∀ s r,simpR s=false→plF (L+1) s=some r→r.1≤L→plF L s=some r:=fun s r hs hr hrL=>by
      have h1:1≤r.1:=by
       rw [plF] at hr
       split at hr
       · cases hl2:plL (plF L) s.kids (0,(s.kids.length:Int)) with
         | none=>rw [hl2] at hr;cases hr
         | some z=>
          rw [hl2] at hr;have hz:=plL_in (plF_in L) s.kids _ z (by simp) (by simp) hl2;simp only at hr;rw [if_neg (by rw [hs];simp)] at hr;have e:(z.1+1,z.2)=r:=Option.some.inj hr;rw [← e];simp only;omega
       · cases hr
      exact plF_less L s r (by omega) hr hrL
     rw [plL_less (B:=(L:Int)) hlow (plF_in (L+1)) t.kids _ q (by simp) (by simp only;omega) hl hqL];exact h
  · rw [if_neg hc] at h;cases h
/-- What the document's Right takes, and its measure, is the program's. -/
theorem both_meas (t:Tr):measF 16 t=match refF 17 t 16384 with
    | none=>none
    | some p=>if p.1≤16 then some p else none:=by
 rw [measF_pl,refF_pl 17 t 16384 (by omega)]
 cases h17:plF 17 t with
 | none=>
  cases h16:plF 16 t with
  | none=>rfl
  | some p=>rw [plF_mono 16 t p h16] at h17;cases h17
 | some p=>
  by_cases hp:p.1≤16
  · rw [plF_less 16 t p (by omega) h17 hp]
    unfold upTo;simp only;by_cases hc:p.2≤16384
    · rw [if_pos hc];simp only;rw [if_pos hp]
    · rw [if_neg hc]
  · have h16:plF 16 t=none:=by
     cases h:plF 16 t with
     | none=>rfl
     | some q=>
      have e:=plF_mono 16 t q h;rw [h17] at e
      cases e
      have:=plF_in 16 t p h;exact absurd this.2.1 hp
    rw [h16];unfold upTo;simp only;by_cases hc:p.2≤16384
    · rw [if_pos hc];simp only;rw [if_neg hp]
    · rw [if_neg hc]
end
end Go.Proofs.YtheaeggecpfcbaaGreat
