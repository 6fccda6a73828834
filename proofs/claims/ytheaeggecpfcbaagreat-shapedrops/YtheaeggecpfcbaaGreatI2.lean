/- What Make asks of items makes a right array (all pure). -/
import Derived.Test.YtheaeggecpfcbaaGreatH5
import Derived.Test.YtheaeggecpfcbaaGreatI1
set_option linter.unusedVariables false
set_option linter.unusedSimpArgs false
namespace Go.Proofs.YtheaeggecpfcbaaGreat
open Go.RowKit
theorem measL_le {I:Tr→Option (Int×Int)}:∀ (l:List Tr) (w p:Int×Int),measL I l w=some p→w.1≤p.1∧∀ t∈l,∃ r,I t=some r∧1+r.1≤p.1
 | [],w,p,h=>by rw [measL] at h;cases h;exact ⟨Int.le_refl _,fun t ht=>by cases ht⟩
 | t :: l,w,p,h=>by
  rw [measL] at h
  cases hi:I t with
  | none=>rw [hi] at h;cases h
  | some q=>
   rw [hi] at h;simp only [] at h;by_cases hc:16384<w.2+q.2
   · rw [if_pos hc] at h;cases h
   · rw [if_neg hc] at h
     obtain ⟨h1,h2⟩:=measL_le l _ p h;have h1:max w.1 (1+q.1)≤p.1:=h1;refine ⟨by omega,fun s hs => ?_⟩;rcases List.mem_cons.1 hs with rfl | hs
     · exact ⟨q,hi,by omega⟩
     · exact h2 s hs
theorem measL_down {I J:Tr→Option (Int×Int)} {d:Int}:∀ (l:List Tr) (w p:Int×Int),p.1≤d→(∀ t r,t∈l→I t=some r→1+r.1≤d→J t=some r)→measL I l w=some p→measL J l w=some p
 | [],w,p,_,_,h=>by rw [measL] at h ⊢;exact h
 | t :: l,w,p,hd,hJ,h=>by
  have hle:=(measL_le _ _ _ h).2 t (List.mem_cons_self ..);rw [measL] at h ⊢;obtain ⟨r,hr,hr1⟩:=hle;rw [hr] at h;rw [hJ t r (List.mem_cons_self ..) hr (by omega)];simp only [] at h ⊢;by_cases hc:16384<w.2+r.2
  · rw [if_pos hc] at h;cases h
  · rw [if_neg hc] at h ⊢
    exact measL_down l _ p hd (fun s q hs=>hJ s q (List.mem_cons_of_mem _ hs)) h
theorem measI_down {L:Nat} (hD:∀ t p,measF (L+1) t=some p→simpB t=false→p.1≤L→measF L t=some p) {t:Tr} {r:Int×Int} (h:measI (measF (L+1)) t=some r) (hr:r.1≤L):measI (measF L) t=some r:=by
 unfold measI at h ⊢;by_cases e1:t.k=1
 · rw [if_pos e1] at h ⊢;exact h
 rw [if_neg e1] at h ⊢;by_cases e2:t.k=2
 · rw [if_pos e2] at h ⊢;exact h
 rw [if_neg e2] at h ⊢;by_cases e3:t.k=3
 · rw [if_pos e3] at h ⊢
   by_cases hc:noneB t=true∧t.c=0∧t.kids.length=1∧simpB (t.kids.getD 0 tr0)=false
   · rw [if_pos hc] at h ⊢
     exact hD _ _ h hc.2.2.2 hr
   · rw [if_neg hc] at h;cases h
 · rw [if_neg e3] at h;cases h
theorem measF_down:∀ (L:Nat) (t:Tr) (p:Int×Int),measF (L+1) t=some p→simpB t=false→p.1≤L→measF L t=some p
 | 0,t,p,h,hs,hp=>by
  rw [measF] at h;by_cases hc:(sizeF t.ns).2=0∧(t.kids.length:Int)=max (sizeF t.ns).1 1
  · rw [if_pos hc] at h
    cases hm:measL (measI (measF 0)) t.kids (1,(t.kids.length:Int)) with
    | none=>rw [hm] at h;cases h
    | some q=>
     rw [hm] at h;have h1:=(measL_le _ _ _ hm).1;have h1:1≤q.1:=h1;simp only [hs] at h
     cases h
     have hp:q.1≤((0:Nat):Int):=by simpa using hp
     omega
  · rw [if_neg hc] at h;cases h
 | L+1,t,p,h,hs,hp=>by
  rw [measF] at h ⊢;by_cases hc:(sizeF t.ns).2=0∧(t.kids.length:Int)=max (sizeF t.ns).1 1
  · rw [if_pos hc] at h ⊢
    cases hm:measL (measI (measF (L+1))) t.kids (1,(t.kids.length:Int)) with
    | none=>rw [hm] at h;cases h
    | some q=>
     rw [hm] at h;simp only [hs] at h;have hq:q.1≤((L+1:Nat):Int):=by cases h;simpa using hp
     have:=measL_down (J:=measI (measF L)) (d:=((L+1:Nat):Int)) _ _ _ hq (fun t r _ hr hle=>measI_down (measF_down L) hr (by push_cast at hle;omega)) hm;rw [this];simp only [hs];exact h
  · rw [if_neg hc] at h;cases h
theorem measL_of_tog {I:Tr→Option (Int×Int)} (hn:∀ t q,I t=some q→0≤q.2):∀ (l:List Tr) (w p:Int×Int),(∀ t∈l,(I t).isSome=true)→(l.map (fun t=>(I t).getD (0,0))).foldl togStep w=p→p.2≤16384→w.2+(l.length:Int)≤p.2∧measL I l (w.1,w.2+(l.length:Int))=some p
 | [],w,p,_,h,_=>by
  rw [measL];simp at h;subst h;exact ⟨by simp,by simp⟩
 | t :: l,w,p,hs,h,hp=>by
  obtain ⟨q,hq⟩:=Option.isSome_iff_exists.1 (hs t (List.mem_cons_self ..));rw [List.map_cons,List.foldl_cons,hq] at h;obtain ⟨h1,h2⟩:=measL_of_tog hn l _ p (fun s hs'=>hs s (List.mem_cons_of_mem _ hs')) h hp;have h0:=hn t q hq;unfold togStep at h1 h2;simp only [Option.getD_some] at h1 h2;have hc:¬ 16384<w.2+((t :: l).length:Int)+q.2:=by
   simp only [List.length_cons]
   push_cast
   omega
  refine ⟨by simp only [List.length_cons];push_cast;omega,?_⟩;rw [measL,hq];simp only [];rw [if_neg hc];rw [← h2]
  congr 2
  simp only [List.length_cons]
  push_cast
  omega
theorem right_of_make {sh:List Int} {l:List Tr} (hall:∀ t∈l,(measI (measF 16) t).isSome=true) (hd:(togF (msOf l)).1≤16) (hc:(togF (msOf l)).2≤16384) (hE:(sizeF sh).2=0) (hl:(l.length:Int)=max (sizeF sh).1 1):(measF 16 (arrT sh l)).isSome=true:=by
 have hn:∀ t q,measI (measF 16) t=some q→0≤q.2:=fun t q hq=>(measI_in (measF_in 16) t q hq).2.2.1;obtain ⟨_,h2⟩:=measL_of_tog hn l (1,0) (togF (msOf l)) hall rfl hc;have h3:=measL_down (J:=measI (measF 15)) (d:=16) _ _ _ hd (fun t r _ hr hle=>measI_down (measF_down 15) hr (by show r.1≤15;omega)) h2;rw [measF,if_pos ⟨hE,hl⟩];have h4:measL (measI (measF 15)) l (1,(l.length:Int))=some (togF (msOf l)):=by simpa using h3
 have h5:measL (measI (measF 15)) (arrT sh l).kids (1,((arrT sh l).kids.length:Int))=some (togF (msOf l)):=h4;rw [h5];rfl
theorem cyc_self {α:Type} (d:α) (l:List α):cyc d l l.length=l:=by
 refine List.ext_getElem (cyc_len _ _ _) fun i h1 h2 => ?_;have h:=cyc_get (d:=d) (L:=l) (N:=l.length) h2;rw [Nat.mod_eq_of_lt h2,List.getD_eq_getElem?_getD,List.getD_eq_getElem?_getD,List.getElem?_eq_getElem h1,List.getElem?_eq_getElem h2] at h;exact h
theorem size_vec {n:Nat} (h:(sizeF [(n:Int)]).2=0):(sizeF [(n:Int)]).1=(n:Int):=by
 by_cases h4:n≤4096
 · rw [size_one (by omega) (by omega)]
 · have e:sizeF [(n:Int)]=(0,8):=by
    have h1:loF [(n:Int)]=min 1 (n:Int):=rfl;have h2:hiF [(n:Int)]=max 1 (n:Int):=rfl;unfold sizeF;rw [if_neg (by simp),if_neg (by rw [h1];omega),if_pos (by rw [h2];omega)]
   rw [e] at h;exact absurd h (by decide)
section
variable {w:World} {f:Nat} {D:Nat→Prop} {x1 a2:Option Addr} {y1 c2:Nat} {l:List Tr}
/-- A row of items as a vector. -/
theorem make_vec (hsh:RdN D w (.slice x1 1 y1) [(l.length:Int)]) (hR:RowB D l.length (.slice a2 l.length c2) (fun g o j=>ItC (ArV f D w) D w g (o+j*6) (l.getD j tr0))) (hD:∀ g,D g→g<w.heap.size) (hs:l.length*96≤140737488355328) :
    Calls Tryz.prog 8 #[.slice x1 1 y1,.slice a2 l.length c2] w fun e w'=>((∃ k:Int,k≠0∧e=.returned (.tuple #[.agg #[.slice none 0 0,.slice none 0 0],.int .i64 k]))∨∃ z1 u1 z2 u2,0<l.length∧e=.returned (.tuple #[.agg #[.slice z1 1 u1,.slice z2 l.length u2],.int .i64 0])∧ArV (f+1) (Fr w.heap.size w'.heap.size) w' (.slice z1 1 u1) (.slice z2 l.length u2) (arrT [(l.length:Int)] l)∧(measF 16 (arrT [(l.length:Int)] l)).isSome=true)∧Below w.heap.size w w':=by
 by_cases hE:(sizeF [(l.length:Int)]).2=0
 case neg=>exact (make_size (sh:=[(l.length:Int)]) hsh hR hD hE).mono fun e w' ⟨k,h1,h2,h3⟩=>⟨.inl ⟨k,h1,h2⟩,h3⟩
 have hN:(sizeF [(l.length:Int)]).1=(l.length:Int):=size_vec hE;by_cases hno:(∀ t∈l,(measI (measF 16) t).isSome=true)∧0<l.length
 case neg=>exact (make_form (sh:=[(l.length:Int)]) (N:=l.length) hsh hR hD hs hE hN (fun h=>by
  by_cases h0:0<l.length
  · exact absurd ⟨h,h0⟩ hno
  · omega)).mono fun e w' ⟨k,h1,h2,h3⟩=>⟨.inl ⟨k,h1,h2⟩,h3⟩
 obtain ⟨hall,h0⟩:=hno;by_cases hlim:(togF (cyc (0,0) (msOf l) l.length)).1≤16∧(togF (cyc (0,0) (msOf l) l.length)).2≤16384
 case neg=>exact (make_limit (sh:=[(l.length:Int)]) (N:=l.length) hsh hR hD h0 hs hE hN h0 hall hlim).mono fun e w' ⟨k,h1,h2,h3⟩=>⟨.inl ⟨k,h1,h2⟩,h3⟩
 refine (make_ok (sh:=[(l.length:Int)]) (N:=l.length) hsh hR hD h0 hs hE hN h0 hall hlim.1 hlim.2).mono fun e w' ⟨z1,u1,z2,u2,h1,h2,h3⟩=>⟨.inr ⟨z1,u1,z2,u2,h0,h1,?_,?_⟩,h3⟩
 · rw [cyc_self] at h2
   exact h2
 · have hc:cyc (0,0) (msOf l) l.length=msOf l:=by rw [← msOf_len l];exact cyc_self _ _
   rw [hc] at hlim;exact right_of_make hall hlim.1 hlim.2 hE (by rw [hN];omega)
end
theorem measL_cells {I:Tr→Option (Int×Int)} (hn:∀ t q,I t=some q→0≤q.2):∀ (l:List Tr) (w p:Int×Int),1≤w.2→measL I l w=some p→∀ t∈l,∃ r,I t=some r∧1+r.2≤16384
 | [],w,p,_,h,t,ht=>by cases ht
 | t :: l,w,p,hw,h,s,hs=>by
  rw [measL] at h
  cases hi:I t with
  | none=>rw [hi] at h;cases h
  | some q=>
   rw [hi] at h;simp only [] at h;by_cases hc:16384<w.2+q.2
   · rw [if_pos hc] at h;cases h
   · rw [if_neg hc] at h
     have h0:=hn t q hi;rcases List.mem_cons.1 hs with rfl | hs
     · exact ⟨q,hi,by omega⟩
     · exact measL_cells hn l _ p (by show 1≤w.2+q.2;omega) h s hs
theorem fit_one {t s:Tr} (h:(measF 16 t).isSome=true) (hs:s∈t.kids):(∀ x∈[tyI s],(measI (measF 16) x).isSome=true)∧(togF (cyc (0,0) (msOf [tyI s]) 1)).1≤16∧(togF (cyc (0,0) (msOf [tyI s]) 1)).2≤16384:=by
 have hn:∀ t q,measI (measF 15) t=some q→0≤q.2:=fun t q hq=>(measI_in (measF_in 15) t q hq).2.2.1;have hpos:1≤t.kids.length:=List.length_pos_of_mem hs;rw [measF] at h;by_cases hc:(sizeF t.ns).2=0∧(t.kids.length:Int)=max (sizeF t.ns).1 1
 · rw [if_pos hc] at h
   cases hm:measL (measI (measF 15)) t.kids (1,(t.kids.length:Int)) with
   | none=>rw [hm] at h;cases h
   | some p=>
    obtain ⟨r,hr,hr2⟩:=measL_cells hn _ _ _ (by show (1:Int)≤(t.kids.length:Int);omega) hm s hs;have hb:=measI_in (measF_in 15) s r hr;have hty:measI (measF 16) (tyI s)=some r:=by
     rw [tyI_meas (fun a ha=>ty_meas 16 a ha) (fun a ha=>ty_simp ha) (by rw [measI_up (fun s r=>measF_up 15 s r) s r hr];rfl)];exact measI_up (fun s r=>measF_up 15 s r) s r hr
    have hms:togF (cyc (0,0) (msOf [tyI s]) 1)=(max 1 (1+r.1),0+(1+r.2)):=by
     have e:msOf [tyI s]=[r]:=by unfold msOf;rw [List.map_cons,hty];rfl
     rw [e];rfl
    refine ⟨fun x hx => ?_,?_,?_⟩
    · obtain rfl:x=tyI s:=by simpa using hx
      rw [hty];rfl
    · rw [hms];show max 1 (1+r.1)≤16;have:=hb.2.1;omega
    · rw [hms];show 0+(1+r.2)≤16384;omega
 · rw [if_neg hc] at h;cases h
theorem fold_mono:∀ (l:List (Int×Int)) (v w:Int×Int),v.1≤w.1→v.2≤w.2→(l.foldl togStep v).1≤(l.foldl togStep w).1∧(l.foldl togStep v).2≤(l.foldl togStep w).2
 | [],v,w,h1,h2=>⟨h1,h2⟩
 | x :: l,v,w,h1,h2=>by
  rw [List.foldl_cons,List.foldl_cons];refine fold_mono l _ _ ?_ ?_
  · show max v.1 (1+x.1)≤max w.1 (1+x.1);omega
  · show v.2+(1+x.2)≤w.2+(1+x.2);omega
theorem fold_up:∀ (l:List (Int×Int)) (w:Int×Int),(∀ x∈l,inMs x)→w.1≤(l.foldl togStep w).1∧w.2≤(l.foldl togStep w).2
 | [],w,_=>⟨Int.le_refl _,Int.le_refl _⟩
 | x :: l,w,h=>by
  rw [List.foldl_cons];have h1:=fold_up l (togStep w x) (fun y hy=>h y (List.mem_cons_of_mem _ hy));have h2:=(h x (List.mem_cons_self ..)).2.2.1;have h3:(togStep w x).1=max w.1 (1+x.1):=rfl;have h4:(togStep w x).2=w.2+(1+x.2):=rfl;exact ⟨by omega,by omega⟩
/-- What is left of items that fit fits. -/
theorem fit_drop {sh:List Int} {l:List Tr} (k:Nat) (h:(measF 16 (arrT sh l)).isSome=true):(∀ s∈l.drop k,(measI (measF 16) s).isSome=true)∧(togF (msOf (l.drop k))).1≤16∧(togF (msOf (l.drop k))).2≤16384:=by
 obtain ⟨h1,h2,h3,_,_,_⟩:=make_fit (l':=l) h (List.Perm.refl _);refine ⟨fun s hs=>h1 s (List.mem_of_mem_drop hs),?_⟩;have e:msOf l=msOf (l.take k)++msOf (l.drop k):=by
  unfold msOf;rw [← List.map_append,List.take_append_drop]
 have e2:togF (msOf l)=(msOf (l.drop k)).foldl togStep (togF (msOf (l.take k))):=by
  rw [e];unfold togF;rw [List.foldl_append]
 have u:=fold_up (msOf (l.take k)) (1,0) (msOf_in _);have m:=fold_mono (msOf (l.drop k)) (1,0) (togF (msOf (l.take k))) u.1 u.2;rw [← e2] at m;exact ⟨Int.le_trans m.1 h2,Int.le_trans m.2 h3⟩
end Go.Proofs.YtheaeggecpfcbaaGreat
