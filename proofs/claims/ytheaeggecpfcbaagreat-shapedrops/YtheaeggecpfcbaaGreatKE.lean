/- A bool that tells whether something is so. -/
import Derived.Test.YtheaeggecpfcbaaGreatJ1
import Derived.Test.YtheaeggecpfcbaaGreatK11
import Derived.Test.YtheaeggecpfcbaaGreatK8
import Derived.Test.YtheaeggecpfcbaaGreatKA
set_option maxRecDepth 100000
set_option maxHeartbeats 16000000
set_option linter.unusedVariables false
set_option linter.unusedSimpArgs false
namespace Go.Proofs.YtheaeggecpfcbaaGreat
open Go.RowKit
def AnsB (e:Ending) (P:Prop):Prop:=∃ β,e=.returned (.bool β)∧Hid (β=true↔P)
theorem equalN_walk (b1 o1 c1 b2 o2 c2 n:Nat) (xs:List Int) (w:World) (hb:n≤9223372036854775807)
    (k1:∀ j,j<n→w.cell? ⟨b1,o1+j,none⟩=some (.int .i64 (xs.getD j 0)))
    (k2:∀ j,j<n→w.cell? ⟨b2,o2+j,none⟩=some (.int .i64 (xs.getD j 0))) :
    Calls Tryz.prog 86 #[.slice (some ⟨b1,o1,none⟩) n c1,.slice (some ⟨b2,o2,none⟩) n c2] w fun e w'=>e=.returned (.bool true)∧∃ q,w'=w.drewN q:=by
 have K1:Hid (∀ j,j<n→w.cell? ⟨b1,o1+j,none⟩=some (.int .i64 (xs.getD j 0))):=k1;have K2:Hid (∀ j,j<n→w.cell? ⟨b2,o2+j,none⟩=some (.int .i64 (xs.getD j 0))):=k2;clear k1 k2;go_enter Tryz.func86,Tryz.ntmps86;go_wp2
 go_loopw [13] (fun s wr=>(∃ q,wr=w.drewN q)∧∃ j:Nat,j≤n∧s=.int .i64 j) (fun s _=>n - (intOf s).toNat)
 case atStart=>exact ⟨⟨0,rfl⟩,0,Nat.zero_le _,rfl⟩
 case round=>
  obtain ⟨⟨q,rfl⟩,j,hj,rfl⟩:=hrel;by_cases hlt:j<n
  · have g1:=K1.out j hlt
    have g2:=K2.out j hlt;generalize xs.getD j 0=p at *;go_wp2
    go_quiet (fail)
    go_wp2
    go_roundw
    case rel=>exact ⟨⟨_,rfl⟩,j+1,by omega,by go_num⟩
    case measure=>simp [intOf];omega
  · go_wp2
    go_ret
    exact ⟨rfl,_,rfl⟩
theorem equalN_rd {D D':Nat→Prop} {w:World} {v1 v2:Value} {xs:List Int} (h1:RdN D w v1 xs) (h2:RdN D' w v2 xs) :
    Calls Tryz.prog 86 #[v1,v2] w fun e w'=>e=.returned (.bool true)∧Below w.heap.size w w':=by
 obtain ⟨_,a1,c1,rfl,i1,j1,_,f1⟩:=h1;obtain ⟨_,a2,c2,rfl,i2,j2,_,f2⟩:=h2;by_cases h0:xs.length=0
 · rw [h0]
   refine (equal_shape a1 a2 c1 c2 w).mono ?_;rintro e w' ⟨rfl,rfl⟩;exact ⟨rfl,Below.refl _ _⟩
 · rcases f1 with f1 | ⟨b1,o1,rfl,_,k1⟩
   · exact absurd f1 h0
   rcases f2 with f2 | ⟨b2,o2,rfl,_,k2⟩
   · exact absurd f2 h0
   refine (equalN_walk b1 o1 c1 b2 o2 c2 xs.length xs w (by omega) k1 k2).mono ?_;rintro e w' ⟨rfl,q,rfl⟩;exact ⟨rfl,below_drewN' (Below.refl _ _) q⟩
section
variable {D:Nat→Prop} {f L:Nat} {w:World} {x y:IV} {t:Tr}
end
theorem equalN_no (b1 o1 c1 b2 o2 c2 n:Nat) (xs ys:List Int) (w:World) (hb:n≤9223372036854775807)
    (k1:∀ j,j<n→w.cell? ⟨b1,o1+j,none⟩=some (.int .i64 (xs.getD j 0)))
    (k2:∀ j,j<n→w.cell? ⟨b2,o2+j,none⟩=some (.int .i64 (ys.getD j 0))) (hne:¬ ∀ j,j<n→xs.getD j 0=ys.getD j 0) :
    Calls Tryz.prog 86 #[.slice (some ⟨b1,o1,none⟩) n c1,.slice (some ⟨b2,o2,none⟩) n c2] w fun e w'=>e=.returned (.bool false)∧Below w.heap.size w w':=by
 have K1:Hid (∀ j,j<n→w.cell? ⟨b1,o1+j,none⟩=some (.int .i64 (xs.getD j 0))):=k1;have K2:Hid (∀ j,j<n→w.cell? ⟨b2,o2+j,none⟩=some (.int .i64 (ys.getD j 0))):=k2;have HN:Hid (¬ ∀ j,j<n→xs.getD j 0=ys.getD j 0):=hne;clear k1 k2 hne;go_enter Tryz.func86,Tryz.ntmps86;go_wp2
 go_loopw [13] (fun s wr=>(∃ q,wr=w.drewN q)∧∃ j:Nat,j≤n∧s=.int .i64 j∧Hid (∀ i,i<j→xs.getD i 0=ys.getD i 0)) (fun s _=>n - (intOf s).toNat)
 case atStart=>exact ⟨⟨0,rfl⟩,0,Nat.zero_le _,rfl,fun i hi=>by omega⟩
 case round=>
  obtain ⟨⟨q,rfl⟩,j,hj,rfl,HE⟩:=hrel;by_cases hlt:j<n
  · have g1:=K1.out j hlt
    have g2:=K2.out j hlt;by_cases hpp:xs.getD j 0=ys.getD j 0
    · have HE2:Hid (∀ i,i<j+1→xs.getD i 0=ys.getD i 0):=by
       intro i hi;by_cases h:i=j
       · subst h;exact hpp
       · exact HE.out i (by omega)
      rw [← hpp] at g2;clear hpp;generalize xs.getD j 0=p at *;go_wp2
      go_quiet (fail)
      go_wp2
      go_roundw
      case rel=>exact ⟨⟨_,rfl⟩,j+1,by omega,by go_num,HE2⟩
      case measure=>simp [intOf];omega
    · generalize xs.getD j 0=p at *
      generalize ys.getD j 0=p' at *;have hpb:(p != p')=true:=by rw [bne_iff_ne];exact hpp
      have hpc:(p==p')=false:=by rw [beq_eq_false_iff_ne];exact hpp
      go_wp2
      go_quiet (fail)
      go_wp2
      go_ret
      exact ⟨rfl,below_drewN' (below_drewN' (Below.refl _ _) _) _⟩
  · exact absurd (fun i hi=>HE.out i (by omega)) HN.out
theorem equalN_len (a1 a2:Option Addr) (n m c1 c2:Nat) (w:World) (h:¬ n=m) :
    Calls Tryz.prog 86 #[.slice a1 n c1,.slice a2 m c2] w fun e w'=>e=.returned (.bool false)∧w=w':=by
 have hb:((n:Int) != (m:Int))=true:=by rw [bne_iff_ne];omega
 have hc:((n:Int)==(m:Int))=false:=by rw [beq_eq_false_iff_ne];omega
 go_enter Tryz.func86,Tryz.ntmps86;go_wp2
 go_ret
 exact ⟨rfl,rfl⟩
theorem equalN_any {D D':Nat→Prop} {w:World} {v1 v2:Value} {xs ys:List Int} (h1:RdN D w v1 xs) (h2:RdN D' w v2 ys) :
    Calls Tryz.prog 86 #[v1,v2] w fun e w'=>e=.returned (.bool (decide (xs=ys)))∧Below w.heap.size w w':=by
 by_cases hxy:xs=ys
 · subst hxy
   rw [decide_eq_true rfl];exact equalN_rd h1 h2
 · rw [decide_eq_false hxy]
   obtain ⟨_,a1,c1,rfl,i1,j1,_,f1⟩:=h1;obtain ⟨_,a2,c2,rfl,i2,j2,_,f2⟩:=h2;by_cases hl:xs.length=ys.length
   · by_cases h0:xs.length=0
     · exact absurd ((List.length_eq_zero_iff.1 h0).trans (List.length_eq_zero_iff.1 (hl ▸ h0)).symm) hxy
     · rcases f1 with f1 | ⟨b1,o1,rfl,_,k1⟩
       · exact absurd f1 h0
       rcases f2 with f2 | ⟨b2,o2,rfl,_,k2⟩
       · exact absurd (hl.trans f2) h0
       rw [← hl];refine (equalN_no b1 o1 c1 b2 o2 c2 xs.length xs ys w (by omega) k1 (fun j hj=>k2 j (by omega)) ?_).mono ?_
       · intro h
         refine hxy (List.ext_getElem hl fun i h1 h2 => ?_);have:=h i h1;simpa [List.getD,h1,h2] using this
       · exact fun e w' h=>h
   · refine (equalN_len a1 a2 xs.length ys.length c1 c2 w hl).mono ?_
     rintro e w' ⟨rfl,rfl⟩;exact ⟨rfl,Below.refl _ _⟩
theorem equalL_no (b1 o1 c1 b2 o2 c2 n:Nat) (xs ys:List Int) (w:World) (hb:n≤9223372036854775807)
    (k1:∀ j,j<n→w.cell? ⟨b1,o1+j,none⟩=some (.int .u32 (xs.getD j 0)))
    (k2:∀ j,j<n→w.cell? ⟨b2,o2+j,none⟩=some (.int .u32 (ys.getD j 0))) (hne:¬ ∀ j,j<n→xs.getD j 0=ys.getD j 0) :
    Calls Tryz.prog 132 #[.slice (some ⟨b1,o1,none⟩) n c1,.slice (some ⟨b2,o2,none⟩) n c2] w fun e w'=>e=.returned (.bool false)∧Below w.heap.size w w':=by
 have K1:Hid (∀ j,j<n→w.cell? ⟨b1,o1+j,none⟩=some (.int .u32 (xs.getD j 0))):=k1;have K2:Hid (∀ j,j<n→w.cell? ⟨b2,o2+j,none⟩=some (.int .u32 (ys.getD j 0))):=k2;have HN:Hid (¬ ∀ j,j<n→xs.getD j 0=ys.getD j 0):=hne;clear k1 k2 hne;go_enter Tryz.func132,Tryz.ntmps132;go_wp2
 go_loopw [13] (fun s wr=>(∃ q,wr=w.drewN q)∧∃ j:Nat,j≤n∧s=.int .i64 j∧Hid (∀ i,i<j→xs.getD i 0=ys.getD i 0)) (fun s _=>n - (intOf s).toNat)
 case atStart=>exact ⟨⟨0,rfl⟩,0,Nat.zero_le _,rfl,fun i hi=>by omega⟩
 case round=>
  obtain ⟨⟨q,rfl⟩,j,hj,rfl,HE⟩:=hrel;by_cases hlt:j<n
  · have g1:=K1.out j hlt
    have g2:=K2.out j hlt;by_cases hpp:xs.getD j 0=ys.getD j 0
    · have HE2:Hid (∀ i,i<j+1→xs.getD i 0=ys.getD i 0):=by
       intro i hi;by_cases h:i=j
       · subst h;exact hpp
       · exact HE.out i (by omega)
      rw [← hpp] at g2;clear hpp;generalize xs.getD j 0=p at *;go_wp2
      go_quiet (fail)
      go_wp2
      go_roundw
      case rel=>exact ⟨⟨_,rfl⟩,j+1,by omega,by go_num,HE2⟩
      case measure=>simp [intOf];omega
    · generalize xs.getD j 0=p at *
      generalize ys.getD j 0=p' at *;have hpb:(p != p')=true:=by rw [bne_iff_ne];exact hpp
      have hpc:(p==p')=false:=by rw [beq_eq_false_iff_ne];exact hpp
      go_wp2
      go_quiet (fail)
      go_wp2
      go_ret
      exact ⟨rfl,below_drewN' (below_drewN' (Below.refl _ _) _) _⟩
  · exact absurd (fun i hi=>HE.out i (by omega)) HN.out
theorem equalL_len (a1 a2:Option Addr) (n m c1 c2:Nat) (w:World) (h:¬ n=m) :
    Calls Tryz.prog 132 #[.slice a1 n c1,.slice a2 m c2] w fun e w'=>e=.returned (.bool false)∧w=w':=by
 have hb:((n:Int) != (m:Int))=true:=by rw [bne_iff_ne];omega
 have hc:((n:Int)==(m:Int))=false:=by rw [beq_eq_false_iff_ne];omega
 go_enter Tryz.func132,Tryz.ntmps132;go_wp2
 go_ret
 exact ⟨rfl,rfl⟩
theorem equalL_any {B B':Nat} {w:World} {v1 v2:Value} {xs ys:List Int} (h1:Rd B w v1 xs) (h2:Rd B' w v2 ys) :
    Calls Tryz.prog 132 #[v1,v2] w fun e w'=>e=.returned (.bool (decide (xs=ys)))∧Below w.heap.size w w':=by
 by_cases hxy:xs=ys
 · subst hxy
   rw [decide_eq_true rfl];exact equal_rd h1 h2
 · rw [decide_eq_false hxy]
   obtain ⟨_,a1,c1,rfl,i1,j1,_,f1⟩:=h1;obtain ⟨_,a2,c2,rfl,i2,j2,_,f2⟩:=h2;by_cases hl:xs.length=ys.length
   · by_cases h0:xs.length=0
     · exact absurd ((List.length_eq_zero_iff.1 h0).trans (List.length_eq_zero_iff.1 (hl ▸ h0)).symm) hxy
     · rcases f1 with f1 | ⟨b1,o1,rfl,_,k1⟩
       · exact absurd f1 h0
       rcases f2 with f2 | ⟨b2,o2,rfl,_,k2⟩
       · exact absurd (hl.trans f2) h0
       rw [← hl];refine (equalL_no b1 o1 c1 b2 o2 c2 xs.length xs ys w (by omega) k1 (fun j hj=>k2 j (by omega)) ?_).mono ?_
       · intro h
         refine hxy (List.ext_getElem hl fun i h1 h2 => ?_);have:=h i h1;simpa [List.getD,h1,h2] using this
       · exact fun e w' h=>h
   · refine (equalL_len a1 a2 xs.length ys.length c1 c2 w hl).mono ?_
     rintro e w' ⟨rfl,rfl⟩;exact ⟨rfl,Below.refl _ _⟩
/-- Are two items the same, as the program asks right ones? -/
def eqI (E:Tr→Tr→Prop) (t s:Tr):Prop:=t.k=s.k∧(t.k=3→E (t.kids.getD 0 tr0) (s.kids.getD 0 tr0))∧(t.k=2→t.c=s.c)∧(t.k=1→t.b=s.b∧t.ns=s.ns∧t.ds=s.ds)
def eqF:Nat→Tr→Tr→Prop
 | 0,_,_=>True
 | f+1,t,s=>t.ns=s.ns∧t.kids.length=s.kids.length∧∀ j,j<t.kids.length→eqI (eqF f) (t.kids.getD j tr0) (s.kids.getD j tr0)
/-- array.same of two right arrays. -/
def SmeX (f:Nat):Prop:=∀ (L L':Nat) (D:Nat→Prop) (W:World) (x1:Option Addr) (n1 y1:Nat) (x2:Option Addr) (n2 y2:Nat) (x3:Option Addr) (n3 y3:Nat) (x4:Option Addr) (n4 y4:Nat) (t s:Tr),(∀ g,D g→g<W.heap.size)→ArV f D W (.slice x1 n1 y1) (.slice x2 n2 y2) t→ArV f D W (.slice x3 n3 y3) (.slice x4 n4 y4) s→(measF L t).isSome=true→(measF L' s).isSome=true →
 Calls Tryz.prog 50 #[.agg #[.slice x1 n1 y1,.slice x2 n2 y2],.agg #[.slice x3 n3 y3,.slice x4 n4 y4]] W fun e w'=>AnsB e (eqF f t s)∧Below W.heap.size W w'
section
variable {D:Nat→Prop} {f L L':Nat} {w:World} {x y:IV} {t s:Tr}
theorem sameItemX (hC:SmeX f) (hD:∀ g,D g→g<w.heap.size) (hx:IsIt f D w x t) (hy:IsIt f D w y s) (hm:(measI (measF L) t).isSome=true) (hm':(measI (measF L') s).isSome=true) :
    Calls Tryz.prog 88 #[.agg #[.int .u8 x.k,.bool x.b,.slice x.a1 x.n1 x.c1,.slice x.a2 x.n2 x.c2,.int .i32 x.c,.slice x.a3 x.n3 x.c3],.agg #[.int .u8 y.k,.bool y.b,.slice y.a1 y.n1 y.c1,.slice y.a2 y.n2 y.c2,.int .i32 y.c,.slice y.a3 y.n3 y.c3]] w fun e w'=>AnsB e (eqI (eqF f) t s)∧Below w.heap.size w w':=by
 have X0:=boxA_new w #[.int .u8 x.k,.bool x.b,.slice x.a1 x.n1 x.c1,.slice x.a2 x.n2 x.c2,.int .i32 x.c,.slice x.a3 x.n3 x.c3] 68;have k0:=below_alloc w (.cells #[.int .u8 x.k,.bool x.b,.slice x.a1 x.n1 x.c1,.slice x.a2 x.n2 x.c2,.int .i32 x.c,.slice x.a3 x.n3 x.c3] 68);have k1:=below_alloc (w.alloc (.cells #[.int .u8 x.k,.bool x.b,.slice x.a1 x.n1 x.c1,.slice x.a2 x.n2 x.c2,.int .i32 x.c,.slice x.a3 x.n3 x.c3] 68)) (.cells #[.int .u8 y.k,.bool y.b,.slice y.a1 y.n1 y.c1,.slice y.a2 y.n2 y.c2,.int .i32 y.c,.slice y.a3 y.n3 y.c3] 68);have Y:=boxA_new (w.alloc (.cells #[.int .u8 x.k,.bool x.b,.slice x.a1 x.n1 x.c1,.slice x.a2 x.n2 x.c2,.int .i32 x.c,.slice x.a3 x.n3 x.c3] 68)) #[.int .u8 y.k,.bool y.b,.slice y.a1 y.n1 y.c1,.slice y.a2 y.n2 y.c2,.int .i32 y.c,.slice y.a3 y.n3 y.c3] 68;rw [World.size_alloc] at Y;have X:=X0.below k1 (by simp);have g:Below w.heap.size w _:=k0.trans (k1.mono (by simp));have sv:((w.alloc (.cells #[.int .u8 x.k,.bool x.b,.slice x.a1 x.n1 x.c1,.slice x.a2 x.n2 x.c2,.int .i32 x.c,.slice x.a3 x.n3 x.c3] 68)).alloc (.cells #[.int .u8 y.k,.bool y.b,.slice y.a1 y.n1 y.c1,.slice y.a2 y.n2 y.c2,.int .i32 y.c,.slice y.a3 y.n3 y.c3] 68)).heap.size=w.heap.size+1+1:=by simp
 have hx2:=hx.agree (Agree.of g hD);have hy2:=hy.agree (Agree.of g hD);have hD2:∀ g',D g'→g'<((w.alloc (.cells #[.int .u8 x.k,.bool x.b,.slice x.a1 x.n1 x.c1,.slice x.a2 x.n2 x.c2,.int .i32 x.c,.slice x.a3 x.n3 x.c3] 68)).alloc (.cells #[.int .u8 y.k,.bool y.b,.slice y.a1 y.n1 y.c1,.slice y.a2 y.n2 y.c2,.int .i32 y.c,.slice y.a3 y.n3 y.c3] 68)).heap.size:=fun g' hg=>by have:=hD g' hg;omega
 have e1:=hx.k;have e2:=hy.k;have X0':=X.cell 0 rfl;have Y0':=Y.cell 0 rfl;by_cases hkk:¬ t.k=s.k
 · have hd:(x.k != y.k)=true:=by rw [e1,e2,bne_iff_ne];exact hkk
   have hd':(x.k==y.k)=false:=by rw [e1,e2,beq_eq_false_iff_ne];exact hkk
   have HK:Hid (¬ t.k=s.k):=hkk;clear hx hy hx2 hy2 hm hm' hkk e1 e2 hC hD hD2;go_enter Tryz.func88,Tryz.ntmps88;go_wp2
   go_ret
   exact ⟨⟨false,rfl,⟨fun h=>(by cases h),fun h=>absurd h.1 HK.out⟩⟩,g⟩
 have hkk:t.k=s.k:=Decidable.not_not.1 hkk;rcases measI_cases hm with ⟨h1,h2,h3,h4⟩ | ⟨h1,h2,h3,h4⟩ | ⟨h1,h2,h3,h4,h5,h6⟩
 · have hE:eqI (eqF f) t s↔(t.b=s.b∧t.ns=s.ns∧t.ds=s.ds):=⟨fun h=>h.2.2.2 h1,fun h=>⟨hkk,fun h'=>absurd (h1.symm.trans h') (by decide),fun h'=>absurd (h1.symm.trans h') (by decide),fun _=>h⟩⟩
   have HE:Hid (eqI (eqF f) t s↔(t.b=s.b∧t.ns=s.ns∧t.ds=s.ds)):=hE;have r1:=hx2.v.rn.rd hD2;have r2:=hx2.v.rd.rd hD2;have r3:=hy2.v.rn.rd hD2;have r4:=hy2.v.rd.rd hD2;rw [← hx.n1] at r1;rw [← hx.n2] at r2;rw [← hy.n1] at r3;rw [← hy.n2] at r4;have eb:=hx.b;have eb':=hy.b;have X1:=X.cell 1 rfl;have X2:=X.cell 2 rfl;have X3:=X.cell 3 rfl;have Y1:=Y.cell 1 rfl;have Y2:=Y.cell 2 rfl;have Y3:=Y.cell 3 rfl;rw [h1] at e1;rw [← hkk,h1] at e2;obtain ⟨ns,hns⟩:∃ ns,t.ns=ns:=⟨_,rfl⟩;obtain ⟨ds,hds⟩:∃ ds,t.ds=ds:=⟨_,rfl⟩;obtain ⟨ms,hms⟩:∃ ns,s.ns=ns:=⟨_,rfl⟩;obtain ⟨es,hes⟩:∃ ds,s.ds=ds:=⟨_,rfl⟩;rw [hns,hms,hds,hes,← eb,← eb'] at HE;rw [hns] at r1;rw [hms] at r3;rw [hds] at r2;rw [hes] at r4;have H1:Hid (Rd _ _ (.slice x.a1 x.n1 x.c1) ns):=r1;have H2:Hid (Rd _ _ (.slice x.a2 x.n2 x.c2) ds):=r2;have H3:Hid (Rd _ _ (.slice y.a1 y.n1 y.c1) ms):=r3;have H4:Hid (Rd _ _ (.slice y.a2 y.n2 y.c2) es):=r4;obtain ⟨xk,xb,xa1,xn1,xc1,xa2,xn2,xc2,xc,xa3,xn3,xc3⟩:=x;obtain ⟨yk,yb,ya1,yn1,yc1,ya2,yn2,yc2,yc,ya3,yn3,yc3⟩:=y;simp only [] at e1 e2;subst e1;subst e2;clear hx hy hx2 hy2 hm hm' r1 r2 r3 r4 hns hds hms hes h1 h2 h3 h4 hE eb eb' hkk;go_enter Tryz.func88,Tryz.ntmps88;by_cases hbb:¬ xb=yb
   · have hb:(xb==yb)=false:=by rw [beq_eq_false_iff_ne];exact hbb
     have HB:Hid (¬ xb=yb):=hbb;clear hbb;go_wp2
     go_ret
     exact ⟨⟨false,rfl,⟨fun h=>(by cases h),fun h=>absurd (HE.out.1 h).1 HB.out⟩⟩,g⟩
   have hbb:xb=yb:=Decidable.not_not.1 hbb;have HB:Hid (xb=yb):=hbb;have hb:(xb==yb)=true:=by rw [beq_iff_eq];exact hbb
   clear hbb
   go_wp2_with fail
   clear X0' Y0' X1 X2 X3 Y1 Y2 Y3;refine (equalL_any H1.out H3.out).mono ?_;rintro e w1 ⟨rfl,j1⟩;have s1:=j1.size;by_cases hnm:¬ ns=ms
   · have HNM:Hid (¬ ns=ms):=hnm
     rw [decide_eq_false hnm];clear hnm;go_wp2
     go_ret
     exact ⟨⟨false,rfl,⟨fun h=>(by cases h),fun h=>absurd (HE.out.1 h).2.1 HNM.out⟩⟩,g.trans (j1.mono g.size)⟩
   have hnm:ns=ms:=Decidable.not_not.1 hnm;have HNM:Hid (ns=ms):=hnm;rw [decide_eq_true hnm];clear hnm;have X3:=(X.below j1 (by omega)).cell 3 rfl;have Y3:=(Y.below j1 (by omega)).cell 3 rfl
   go_wp2_with fail
   refine (equalL_any (H2.out.below j1) (H4.out.below j1)).mono ?_;rintro e w2 ⟨rfl,j2⟩;obtain ⟨β,hβ⟩:∃ β,decide (ds=es)=β:=⟨_,rfl⟩;have HBe:Hid (β=true↔ds=es):=by unfold Hid;rw [← hβ];exact decide_eq_true_iff
   rw [hβ];clear hβ;go_wp2
   go_ret
   exact ⟨⟨β,rfl,⟨fun h=>HE.out.2 ⟨HB.out,HNM.out,HBe.out.1 h⟩,fun h=>HBe.out.2 (HE.out.1 h).2.2⟩⟩,(g.trans (j1.mono g.size)).trans (j2.mono (by omega))⟩
 · have hE:eqI (eqF f) t s↔t.c=s.c:=⟨fun h=>h.2.2.1 h1,fun h=>⟨hkk,fun h'=>absurd (h1.symm.trans h') (by decide),fun _=>h,fun h'=>absurd (h1.symm.trans h') (by decide)⟩⟩
   have HE:Hid (eqI (eqF f) t s↔t.c=s.c):=hE;have ec:=hx.c;have ec':=hy.c;rw [← ec,← ec'] at HE;have X4:=X.cell 4 rfl;have Y4:=Y.cell 4 rfl;rw [h1] at e1;rw [← hkk,h1] at e2;obtain ⟨xk,xb,xa1,xn1,xc1,xa2,xn2,xc2,xc,xa3,xn3,xc3⟩:=x;obtain ⟨yk,yb,ya1,yn1,yc1,ya2,yn2,yc2,yc,ya3,yn3,yc3⟩:=y;simp only [] at e1 e2;subst e1;subst e2;clear hx hy hx2 hy2 hm hm' ec ec' hE hkk;by_cases hcc:xc=yc
   · have hc:(xc==yc)=true:=by rw [beq_iff_eq];exact hcc
     have HCC:Hid (xc=yc):=hcc;clear hcc;go_enter Tryz.func88,Tryz.ntmps88;go_wp2
     go_ret
     exact ⟨⟨true,rfl,⟨fun _=>HE.out.2 HCC.out,fun _=>rfl⟩⟩,g⟩
   · have hc:(xc==yc)=false:=by rw [beq_eq_false_iff_ne];exact hcc
     have HCC:Hid (¬ xc=yc):=hcc;clear hcc;go_enter Tryz.func88,Tryz.ntmps88;go_wp2
     go_ret
     exact ⟨⟨false,rfl,⟨fun h=>(by cases h),fun h=>absurd (HE.out.1 h) HCC.out⟩⟩,g⟩
 · rcases measI_cases hm' with ⟨h1',_⟩ | ⟨h1',_⟩ | ⟨h1',h2',h3',h4',h5',h6'⟩
   · exact absurd (h1.symm.trans (hkk.trans h1')) (by decide)
   · exact absurd (h1.symm.trans (hkk.trans h1')) (by decide)
   have hE:eqI (eqF f) t s↔eqF f (t.kids.getD 0 tr0) (s.kids.getD 0 tr0):=⟨fun h=>h.2.1 h1,fun h=>⟨hkk,fun _=>h,fun h'=>absurd (h1.symm.trans h') (by decide),fun h'=>absurd (h1.symm.trans h') (by decide)⟩⟩;have e5:=hx.n3;have e6:=hy.n3;rw [h4] at e5;rw [h4'] at e6;obtain ⟨g1,o1,ea,hg1,hc1⟩:=hx2.v.bx.ptr (by omega);obtain ⟨p1,m1,r1,p2,m2,r2,c1,c2,hv⟩:=hc1 0 (by omega);rw [Nat.zero_mul,Nat.add_zero] at c1 c2;obtain ⟨g2,o2,eb,hg2,hc2⟩:=hy2.v.bx.ptr (by omega);obtain ⟨p3,m3,r3,p4,m4,r4,c3,c4,hv2⟩:=hc2 0 (by omega);rw [Nat.zero_mul,Nat.add_zero] at c3 c4;have lg1:=hD g1 hg1;have lg2:=hD g2 hg2;rw [h1] at e1;rw [← hkk,h1] at e2;obtain ⟨xk,xb,xa1,xn1,xc1,xa2,xn2,xc2,xc,xa3,xn3,xc3⟩:=x;obtain ⟨yk,yb,ya1,yn1,yc1,ya2,yn2,yc2,yc,ya3,yn3,yc3⟩:=y;simp only [] at e1 e2 e5 e6 ea eb;subst e1;subst e2;subst e5;subst e6;subst ea;subst eb;have X5:=X.cell 5 rfl;have Y5:=Y.cell 5 rfl;generalize ha:t.kids.getD 0 tr0=a at *;generalize ha':s.kids.getD 0 tr0=a' at *;have HE:Hid (eqI (eqF f) t s↔eqF f a a'):=hE;have HV:Hid (ArV f D _ (.slice p1 m1 r1) (.slice p2 m2 r2) a):=hv;have HV2:Hid (ArV f D _ (.slice p3 m3 r3) (.slice p4 m4 r4) a'):=hv2;have HC:Hid (SmeX f):=hC;have HM:Hid ((measF L a).isSome=true):=h6;have HM':Hid ((measF L' a').isSome=true):=h6';have HD:Hid (∀ g',D g'→g'<w.heap.size):=hD;clear hx hy hx2 hy2 hm hm' hv hv2 hC hc1 hc2 h6 h6' hD2 hD hE hkk;go_enter Tryz.func88,Tryz.ntmps88
   go_upto_region 5 with fail
   generalize hA:(w.alloc (.cells #[.int .u8 3,.bool xb,.slice xa1 xn1 xc1,.slice xa2 xn2 xc2,.int .i32 xc,.slice (some ⟨g1,o1,none⟩) 1 xc3] 68)).alloc (.cells #[.int .u8 3,.bool yb,.slice ya1 yn1 yc1,.slice ya2 yn2 yc2,.int .i32 yc,.slice (some ⟨g2,o2,none⟩) 1 yc3] 68)=v at *;clear hA k0 k1 X0 X0' Y0';have d0:Below v.heap.size v v.drew:=⟨rfl,rfl,rfl,Nat.le_refl _,fun _ _=>rfl⟩;have hcells:∀ {w':World},Below v.heap.size v w'→w'.cell? ⟨w.heap.size,5,none⟩=some (.slice (some ⟨g1,o1,none⟩) 1 xc3)∧w'.cell? ⟨w.heap.size+1,5,none⟩=some (.slice (some ⟨g2,o2,none⟩) 1 yc3)∧w'.cell? ⟨g1,o1,none⟩=some (.slice p1 m1 r1)∧w'.cell? ⟨g1,o1+1,none⟩=some (.slice p2 m2 r2)∧w'.cell? ⟨g2,o2,none⟩=some (.slice p3 m3 r3)∧w'.cell? ⟨g2,o2+1,none⟩=some (.slice p4 m4 r4):=fun k=>⟨(X.below k (by omega)).cell 5 rfl,(Y.below k (by omega)).cell 5 rfl,(k.cell (p:=⟨g1,o1,none⟩) (by show g1<_;omega)).trans c1,(k.cell (p:=⟨g1,o1+1,none⟩) (by show g1<_;omega)).trans c2,(k.cell (p:=⟨g2,o2,none⟩) (by show g2<_;omega)).trans c3,(k.cell (p:=⟨g2,o2+1,none⟩) (by show g2<_;omega)).trans c4⟩;have j0:=hcells d0;have K1:Hid (Calls Tryz.prog 50 #[.agg #[.slice p1 m1 r1,.slice p2 m2 r2],.agg #[.slice p3 m3 r3,.slice p4 m4 r4]] v.drew fun e w'=>AnsB e (eqF f a a')∧Below v.drew.heap.size v.drew w'):=HC.out L L' D v.drew _ _ _ _ _ _ _ _ _ _ _ _ a a' (fun g' hg=>by have:=HD.out g' hg;show g'<v.heap.size;omega) (HV.out.agree (fun _ _=>rfl)) (HV2.out.agree (fun _ _=>rfl)) HM.out HM'.out;have HCe:Hid (∀ {w':World},Below v.heap.size v w'→w'.cell? ⟨w.heap.size,5,none⟩=some (.slice (some ⟨g1,o1,none⟩) 1 xc3)∧w'.cell? ⟨w.heap.size+1,5,none⟩=some (.slice (some ⟨g2,o2,none⟩) 1 yc3)∧w'.cell? ⟨g1,o1,none⟩=some (.slice p1 m1 r1)∧w'.cell? ⟨g1,o1+1,none⟩=some (.slice p2 m2 r2)∧w'.cell? ⟨g2,o2,none⟩=some (.slice p3 m3 r3)∧w'.cell? ⟨g2,o2+1,none⟩=some (.slice p4 m4 r4)):=hcells;clear hcells X5 Y5 c1 c2 c3 c4
   go_region_held3 (fun w'=>w'.cell? ⟨w.heap.size,5,none⟩=some (.slice (some ⟨g1,o1,none⟩) 1 xc3)∧w'.cell? ⟨w.heap.size+1,5,none⟩=some (.slice (some ⟨g2,o2,none⟩) 1 yc3)∧w'.cell? ⟨g1,o1,none⟩=some (.slice p1 m1 r1)∧w'.cell? ⟨g1,o1+1,none⟩=some (.slice p2 m2 r2)∧w'.cell? ⟨g2,o2,none⟩=some (.slice p3 m3 r3)∧w'.cell? ⟨g2,o2+1,none⟩=some (.slice p4 m4 r4))
    (first | exact jj1 | exact j0)
    (first | (go_at_call 50;refine K1.out.mono ?_;rintro e w1 ⟨⟨β,rfl,hβ⟩,q1⟩;have kk1:Below v.heap.size v w1:=d0.trans (q1.mono d0.size);have jj1:=HCe.out kk1))
   go_wp2
   go_ret
   exact ⟨⟨β,rfl,hβ.out.trans HE.out.symm⟩,g.trans (kk1.mono (by omega))⟩
end
theorem equalFunc_len (a1 a2:Option Addr) (n m c1 c2:Nat) (w:World) (h:¬ n=m) :
    Calls Tryz.prog 87 #[.slice a1 n c1,.slice a2 m c2,.func (.func 88) #[] #[]] w fun e w'=>e=.returned (.bool false)∧w=w':=by
 have hb:((n:Int) != (m:Int))=true:=by rw [bne_iff_ne];omega
 have hc:((n:Int)==(m:Int))=false:=by rw [beq_eq_false_iff_ne];omega
 go_enter Tryz.func87,Tryz.ntmps87;go_wp2
 go_ret
 exact ⟨rfl,rfl⟩
theorem equalFuncX {D:Nat→Prop} {f L L' n:Nat} {w:World} {l l':List Tr} {a1 a2:Option Addr} {c1 c2:Nat} (hC:SmeX f) (hD:∀ g,D g→g<w.heap.size) (hn:l.length=n) (hn':l'.length=n) (h1:RowB D l.length (.slice a1 l.length c1) (fun g o j=>ItC (ArV f D w) D w g (o+j*6) (l.getD j tr0))) (h2:RowB D l'.length (.slice a2 l'.length c2) (fun g o j=>ItC (ArV f D w) D w g (o+j*6) (l'.getD j tr0))) (hm:∀ t∈l,(measI (measF L) t).isSome=true) (hm':∀ t∈l',(measI (measF L') t).isSome=true) :
    Calls Tryz.prog 87 #[.slice a1 n c1,.slice a2 n c2,.func (.func 88) #[] #[]] w fun e w'=>AnsB e (∀ j,j<n→eqI (eqF f) (l.getD j tr0) (l'.getD j tr0))∧Below w.heap.size w w':=by
 have bd1:=RowB.bounds h1;have bd2:=RowB.bounds h2;obtain ⟨L1,hl1,hr1,hi1⟩:=row_iv h1;obtain ⟨L2,hl2,hr2,hi2⟩:=row_iv h2;have HMe:Hid (∀ j,j<n→(measI (measF L) (l.getD j tr0)).isSome=true∧(measI (measF L') (l'.getD j tr0)).isSome=true):=fun j hj=>⟨hm _ (getD_memI (by omega)),hm' _ (getD_memI (by omega))⟩;rw [hn] at hr1 hi1 hl1 bd1;rw [hn'] at hr2 hi2 hl2 bd2;have HR1:Hid (RowIV D w (.slice a1 n c1) L1):=hr1;have HR2:Hid (RowIV D w (.slice a2 n c2) L2):=hr2;have HI1:Hid (∀ j,j<n→IsIt f D w (L1.getD j iv0) (l.getD j tr0)):=hi1;have HI2:Hid (∀ j,j<n→IsIt f D w (L2.getD j iv0) (l'.getD j tr0)):=hi2;have HL1:Hid (L1.length=n):=hl1;have HL2:Hid (L2.length=n):=hl2;have HD:Hid (∀ g,D g→g<w.heap.size):=hD;have HC:Hid (SmeX f):=hC;clear h1 h2 hr1 hr2 hi1 hi2 hl1 hl2 hm hm' hD hC hn hn';go_enter Tryz.func87,Tryz.ntmps87;go_wp2
 go_loopw [17] (fun q wr=>∃ i:Nat,i≤n∧q=.int .i64 i∧Hid (∀ j,j<i→eqI (eqF f) (l.getD j tr0) (l'.getD j tr0))∧Below w.heap.size w wr) (fun q _=>n - (intOf q).toNat)
 case atStart=>exact ⟨0,Nat.zero_le _,rfl,fun j hj=>by omega,Below.refl _ _⟩
 case round=>
  obtain ⟨i,hil,rfl,HE,kr⟩:=hrel;have sr:=kr.size;by_cases hlt:i<n
  · have hR1:=HR1.out
    have hR2:=HR2.out;unfold RowIV at hR1 hR2;rw [HL1.out] at hR1;rw [HL2.out] at hR2;obtain ⟨g1,o1,rfl,hg1,hc1⟩:=RowB.ptr hR1 (by omega);obtain ⟨g2,o2,rfl,hg2,hc2⟩:=RowB.ptr hR2 (by omega);have hx:=HI1.out i hlt;have hy:=HI2.out i hlt;have q1:=hc1 i hlt;have q2:=hc2 i hlt;obtain ⟨hmm,hmm'⟩:=HMe.out i hlt;obtain ⟨t,ht⟩:∃ t,l.getD i tr0=t:=⟨_,rfl⟩;obtain ⟨s,hs⟩:∃ t,l'.getD i tr0=t:=⟨_,rfl⟩;have HT:Hid (l.getD i tr0=t):=ht;have HS:Hid (l'.getD i tr0=s):=hs;rw [ht] at hx hmm;rw [hs] at hy hmm';clear ht hs;generalize L1.getD i iv0=x at *;generalize L2.getD i iv0=y at *;have lg1:=HD.out g1 hg1;have lg2:=HD.out g2 hg2;have E:=q1.agree (D:=fun g=>g<w.heap.size) (fun q hq=>kr.block q hq) lg1;have kx:=below_alloc wr (.cells #[.int .u8 x.k,.bool x.b,.slice x.a1 x.n1 x.c1,.slice x.a2 x.n2 x.c2,.int .i32 x.c,.slice x.a3 x.n3 x.c3] 68);have ky:=below_alloc (wr.alloc (.cells #[.int .u8 x.k,.bool x.b,.slice x.a1 x.n1 x.c1,.slice x.a2 x.n2 x.c2,.int .i32 x.c,.slice x.a3 x.n3 x.c3] 68)) (.cells #[.int .u8 y.k,.bool y.b,.slice y.a1 y.n1 y.c1,.slice y.a2 y.n2 y.c2,.int .i32 y.c,.slice y.a3 y.n3 y.c3] 68);have kk:Below wr.heap.size wr _:=kx.trans (ky.mono kx.size);have BX:=boxA_new wr #[.int .u8 x.k,.bool x.b,.slice x.a1 x.n1 x.c1,.slice x.a2 x.n2 x.c2,.int .i32 x.c,.slice x.a3 x.n3 x.c3] 68;have BXy:=BX.below ky BX.lt;have BY:=boxA_new (wr.alloc (.cells #[.int .u8 x.k,.bool x.b,.slice x.a1 x.n1 x.c1,.slice x.a2 x.n2 x.c2,.int .i32 x.c,.slice x.a3 x.n3 x.c3] 68)) #[.int .u8 y.k,.bool y.b,.slice y.a1 y.n1 y.c1,.slice y.a2 y.n2 y.c2,.int .i32 y.c,.slice y.a3 y.n3 y.c3] 68;rw [World.size_alloc] at BY;have E2:=q2.agree (D:=fun g=>g<w.heap.size) (W':=wr.alloc (.cells #[.int .u8 x.k,.bool x.b,.slice x.a1 x.n1 x.c1,.slice x.a2 x.n2 x.c2,.int .i32 x.c,.slice x.a3 x.n3 x.c3] 68)) (fun q hq=>by rw [kx.block q (by omega)];exact kr.block q hq) lg2;obtain ⟨i0,i1,i2,i3,i4,i5⟩:=E;obtain ⟨l0,l1,l2,l3,l4,l5⟩:=E2;have m0:=BXy.cell 0 rfl;have m1:=BXy.cell 1 rfl;have m2:=BXy.cell 2 rfl;have m3:=BXy.cell 3 rfl;have m4:=BXy.cell 4 rfl;have m5:=BXy.cell 5 rfl;have n0:=BY.cell 0 rfl;have n1:=BY.cell 1 rfl;have n2:=BY.cell 2 rfl;have n3:=BY.cell 3 rfl;have n4:=BY.cell 4 rfl;have n5:=BY.cell 5 rfl;have T:Below w.heap.size w _:=kr.trans (kk.mono sr);have C:=sameItemX HC.out (fun q hq=>by have:=HD.out q hq;have:=T.size;omega) (hx.agree (Agree.of T HD.out)) (hy.agree (Agree.of T HD.out)) hmm hmm';clear hx hy hmm hmm' hc1 hc2 q1 q2 hR1 hR2
    go_wp2_with fail
    refine C.mono ?_;rintro e wm ⟨⟨β,rfl,hβ⟩,km⟩;have T2:Below w.heap.size w wm:=T.trans (km.mono T.size)
    cases β
    · go_wp2
      go_ret
      refine ⟨⟨false,rfl,⟨fun h=>(by cases h),fun h => ?_⟩⟩,T2⟩;have:=h i hlt;rw [HT.out,HS.out] at this;exact hβ.out.2 this
    · have HE2:Hid (∀ j,j<i+1→eqI (eqF f) (l.getD j tr0) (l'.getD j tr0)):=by
       intro j hj;by_cases h:j=i
       · subst h;rw [HT.out,HS.out];exact hβ.out.1 rfl
       · exact HE.out j (by omega)
      go_wp2
      go_roundw
      case rel=>exact ⟨i+1,by omega,by go_num,HE2,T2⟩
      case measure=>simp [intOf];omega
  · go_wp2
    go_ret
    exact ⟨⟨true,rfl,⟨fun _ j hj=>HE.out j (by omega),fun _=>rfl⟩⟩,kr⟩
theorem sameX_step {f:Nat} (hC:SmeX f):SmeX (f+1):=by
 intro L L' D w x1 n1 y1 x2 n2 y2 x3 n3 y3 x4 n4 y4 t s hD h1 h2 hm hm';obtain ⟨L1,rfl,_,_,_,_,m5⟩:=measF_some hm;obtain ⟨L2,rfl,_,_,_,_,m5'⟩:=measF_some hm';have en2:=h1.2.len;have en4:=h2.2.len;have A0:=boxA_new w #[.slice x1 n1 y1,.slice x2 n2 y2] 25;have k0:=below_alloc w (.cells #[.slice x1 n1 y1,.slice x2 n2 y2] 25);have k1:=below_alloc (w.alloc (.cells #[.slice x1 n1 y1,.slice x2 n2 y2] 25)) (.cells #[.slice x3 n3 y3,.slice x4 n4 y4] 25);have C:=boxA_new (w.alloc (.cells #[.slice x1 n1 y1,.slice x2 n2 y2] 25)) #[.slice x3 n3 y3,.slice x4 n4 y4] 25;rw [World.size_alloc] at C;have A:=A0.below k1 (by simp);have g:Below w.heap.size w _:=k0.trans (k1.mono (by simp));have sv:((w.alloc (.cells #[.slice x1 n1 y1,.slice x2 n2 y2] 25)).alloc (.cells #[.slice x3 n3 y3,.slice x4 n4 y4] 25)).heap.size=w.heap.size+1+1:=by simp
 have H1:Hid (ArV (f+1) D w (.slice x1 n1 y1) (.slice x2 n2 y2) t):=h1;have H2:Hid (ArV (f+1) D w (.slice x3 n3 y3) (.slice x4 n4 y4) s):=h2;have HD:Hid (∀ g,D g→g<w.heap.size):=hD;have HM:Hid (∀ x∈t.kids,(measI (measF L1) x).isSome=true):=m5;have HM':Hid (∀ x∈s.kids,(measI (measF L2) x).isSome=true):=m5';have HC:Hid (SmeX f):=hC;have HN2:Hid (n2=t.kids.length):=en2;have HN4:Hid (n4=s.kids.length):=en4;clear h1 h2 hD m5 m5' hm hm' hC en2 en4;have a0:=A.cell 0 rfl;have d0:=C.cell 0 rfl;go_enter Tryz.func50,Tryz.ntmps50
 go_wp2_with fail
 generalize hA:(w.alloc (.cells #[.slice x1 n1 y1,.slice x2 n2 y2] 25)).alloc (.cells #[.slice x3 n3 y3,.slice x4 n4 y4] 25)=v at *;clear hA a0 d0 k0 k1 A0;refine (equalN_any (H1.out.1.imp (fun _ h=>h) (Agree.of g HD.out)) (H2.out.1.imp (fun _ h=>h) (Agree.of g HD.out))).mono ?_;rintro e w1 ⟨rfl,q1⟩;have s1:=q1.size;have kw:Below w.heap.size w w1:=g.trans (q1.mono g.size);by_cases hns:¬ t.ns=s.ns
 · have HNS:Hid (¬ t.ns=s.ns):=hns
   rw [decide_eq_false hns];clear hns;go_wp2
   go_ret
   exact ⟨⟨false,rfl,⟨fun h=>(by cases h),fun h=>absurd h.1 HNS.out⟩⟩,kw⟩
 have hns:t.ns=s.ns:=Decidable.not_not.1 hns;have HNS:Hid (t.ns=s.ns):=hns;rw [decide_eq_true hns];clear hns;have a1:=(A.below q1 (by omega)).cell 1 rfl;have d1:=(C.below q1 (by omega)).cell 1 rfl;have E:Hid (Calls Tryz.prog 87 #[.slice x2 n2 y2,.slice x4 n4 y4,.func (.func 88) #[] #[]] w1 fun e w'=>AnsB e ((t.kids.length=s.kids.length∧∀ j,j<t.kids.length→eqI (eqF f) (t.kids.getD j tr0) (s.kids.getD j tr0)))∧Below w1.heap.size w1 w'):=by
  unfold Hid;by_cases hl:t.kids.length=s.kids.length
  · have hR1:=RowB.imp H1.out.2 (fun _ h=>h) (fun g' o j hg hj hc=>hc.imp hg (fun _ h=>h) (Agree.of kw HD.out) (fun _ _ _ h=>h.agree (Agree.of kw HD.out)))
    have hR2:=RowB.imp H2.out.2 (fun _ h=>h) (fun g' o j hg hj hc=>hc.imp hg (fun _ h=>h) (Agree.of kw HD.out) (fun _ _ _ h=>h.agree (Agree.of kw HD.out)));have e2:=HN2.out;have e4:=HN4.out;rw [e2] at hR1;rw [e4] at hR2;have hX:=equalFuncX (L:=L1) (L':=L2) (n:=n2) HC.out (fun q hq=>by have:=HD.out q hq;have:=kw.size;omega) e2.symm (by omega) hR1 hR2 HM.out HM'.out;have e24:n4=n2:=by omega
    rw [e24];refine hX.mono ?_;rintro e w' ⟨⟨β,rfl,hβ⟩,hb⟩;rw [e2] at hβ;exact ⟨⟨β,rfl,⟨fun h=>⟨hl,hβ.out.1 h⟩,fun h=>hβ.out.2 h.2⟩⟩,hb⟩
  · refine (equalFunc_len x2 x4 n2 n4 y2 y4 w1 (by have:=HN2.out;have:=HN4.out;omega)).mono ?_
    rintro e w' ⟨rfl,rfl⟩;exact ⟨⟨false,rfl,⟨fun h=>(by cases h),fun h=>absurd h.1 hl⟩⟩,Below.refl _ _⟩
 go_wp2_with fail
 refine E.out.mono ?_;rintro e w2 ⟨⟨β,rfl,hβ⟩,q2⟩;go_wp2
 go_ret
 exact ⟨⟨β,rfl,⟨fun h=>⟨HNS.out,hβ.out.1 h⟩,fun h=>hβ.out.2 h.2⟩⟩,kw.trans (q2.mono kw.size)⟩
theorem sameX_all:∀ f,SmeX f
 | 0=>fun _ _ _ _ _ _ _ _ _ _ _ _ _ _ _ _ _ _ _ h=>h.elim
 | f+1=>sameX_step (sameX_all f)
theorem match3_any {D:Nat→Prop} {f:Nat} {w:World} {x1:Option Addr} {n1 y1:Nat} {x2:Option Addr} {n2 y2:Nat} {x3:Option Addr} {n3 y3:Nat} {x4:Option Addr} {n4 y4:Nat} {t s:Tr} (hD:∀ g,D g→g<w.heap.size) (h1:ArV f D w (.slice x1 n1 y1) (.slice x2 n2 y2) t) (h2:ArV f D w (.slice x3 n3 y3) (.slice x4 n4 y4) s) :
    Calls Tryz.prog 29 #[.agg #[.slice x1 n1 y1,.slice x2 n2 y2],.agg #[.slice x3 n3 y3,.slice x4 n4 y4]] w fun e w'=>AnsB e (((measF 16 t).isSome=true∧(measF 16 s).isSome=true∧eqF f t s))∧Below w.heap.size w w':=by
 have A0:=boxA_new w #[.slice x1 n1 y1,.slice x2 n2 y2] 25;have k0:=below_alloc w (.cells #[.slice x1 n1 y1,.slice x2 n2 y2] 25);have k1:=below_alloc (w.alloc (.cells #[.slice x1 n1 y1,.slice x2 n2 y2] 25)) (.cells #[.slice x3 n3 y3,.slice x4 n4 y4] 25);have C:=boxA_new (w.alloc (.cells #[.slice x1 n1 y1,.slice x2 n2 y2] 25)) #[.slice x3 n3 y3,.slice x4 n4 y4] 25;rw [World.size_alloc] at C;have A:=A0.below k1 (by simp);have g:Below w.heap.size w _:=k0.trans (k1.mono (by simp));have sv:((w.alloc (.cells #[.slice x1 n1 y1,.slice x2 n2 y2] 25)).alloc (.cells #[.slice x3 n3 y3,.slice x4 n4 y4] 25)).heap.size=w.heap.size+1+1:=by simp
 have H1:Hid (ArV f D w (.slice x1 n1 y1) (.slice x2 n2 y2) t):=h1;have H2:Hid (ArV f D w (.slice x3 n3 y3) (.slice x4 n4 y4) s):=h2;have HD:Hid (∀ g,D g→g<w.heap.size):=hD;clear h1 h2 hD;have a0:=A.cell 0 rfl;have a1:=A.cell 1 rfl;have C1:=right3_any (W:=(w.alloc (.cells #[.slice x1 n1 y1,.slice x2 n2 y2] 25)).alloc (.cells #[.slice x3 n3 y3,.slice x4 n4 y4] 25)) (fun q hq=>by have:=HD.out q hq;omega) (H1.out.agree (Agree.of g HD.out));go_enter Tryz.func29,Tryz.ntmps29
 go_wp2_with fail
 generalize hA:(w.alloc (.cells #[.slice x1 n1 y1,.slice x2 n2 y2] 25)).alloc (.cells #[.slice x3 n3 y3,.slice x4 n4 y4] 25)=v at *;clear hA a0 a1 k0 k1 A0;refine C1.mono ?_;rintro e w1 ⟨rfl,q1⟩;clear C1;have s1:=q1.size;have kw:Below w.heap.size w w1:=g.trans (q1.mono g.size);by_cases hr:¬ (measF 16 t).isSome=true
 · have hr':(measF 16 t).isSome=false:=by simpa using hr
   have HR:Hid (¬ (measF 16 t).isSome=true):=hr;rw [hr'];clear hr hr';go_wp2
   go_ret
   exact ⟨⟨false,rfl,⟨fun h=>(by cases h),fun h=>absurd h.1 HR.out⟩⟩,kw⟩
 have hr:(measF 16 t).isSome=true:=Decidable.not_not.1 hr;have HR:Hid ((measF 16 t).isSome=true):=hr;rw [hr];clear hr;have d0:=(C.below q1 (by omega)).cell 0 rfl;have d1:=(C.below q1 (by omega)).cell 1 rfl;have C2:=right3_any (fun q hq=>by have:=HD.out q hq;have:=kw.size;omega) (H2.out.agree (Agree.of kw HD.out))
 go_wp2_with fail
 refine C2.mono ?_;rintro e w2 ⟨rfl,q2⟩;clear C2 d0 d1;have s2:=q2.size;have kw2:Below w.heap.size w w2:=kw.trans (q2.mono kw.size);by_cases hr:¬ (measF 16 s).isSome=true
 · have hr':(measF 16 s).isSome=false:=by simpa using hr
   have HR2:Hid (¬ (measF 16 s).isSome=true):=hr;rw [hr'];clear hr hr';go_wp2
   go_ret
   exact ⟨⟨false,rfl,⟨fun h=>(by cases h),fun h=>absurd h.2.1 HR2.out⟩⟩,kw2⟩
 have hr:(measF 16 s).isSome=true:=Decidable.not_not.1 hr;have HR2:Hid ((measF 16 s).isSome=true):=hr;rw [hr];clear hr;have v2:Below v.heap.size v w2:=q1.trans (q2.mono s1);have b0:=(A.below v2 (by omega)).cell 0 rfl;have b1:=(A.below v2 (by omega)).cell 1 rfl;have d0:=(C.below v2 (by omega)).cell 0 rfl;have d1:=(C.below v2 (by omega)).cell 1 rfl;have C3:=sameX_all f 16 16 D w2 _ _ _ _ _ _ _ _ _ _ _ _ t s (fun q hq=>by have:=HD.out q hq;have:=kw2.size;omega) (H1.out.agree (Agree.of kw2 HD.out)) (H2.out.agree (Agree.of kw2 HD.out)) HR.out HR2.out
 go_wp2_with fail
 refine C3.mono ?_;rintro e w3 ⟨⟨β,rfl,hβ⟩,q3⟩;go_wp2
 go_ret
 exact ⟨⟨β,rfl,⟨fun h=>⟨HR.out,HR2.out,hβ.out.1 h⟩,fun h=>hβ.out.2 h.2.2⟩⟩,kw2.trans (q3.mono kw2.size)⟩
end Go.Proofs.YtheaeggecpfcbaaGreat
