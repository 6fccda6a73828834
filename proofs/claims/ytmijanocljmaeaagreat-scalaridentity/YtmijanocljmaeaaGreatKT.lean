/- ref01.Same of any two lists. -/
import Derived.Test.YtmijanocljmaeaaGreatKC
set_option maxHeartbeats 1600000
set_option linter.unusedVariables false
set_option linter.unusedSimpArgs false
namespace Go.Proofs.YtmijanocljmaeaaGreat
open Go.RowKit
theorem same_no (b1 o1 c1 b2 o2 c2 n:Nat) (xs ys:List Int) (w:World) (hb:n≤9223372036854775807)
    (k1:∀ j,j<n→w.cell? ⟨b1,o1+j,none⟩=some (.int .u32 (xs.getD j 0)))
    (k2:∀ j,j<n→w.cell? ⟨b2,o2+j,none⟩=some (.int .u32 (ys.getD j 0))) (hne:¬ ∀ j,j<n→xs.getD j 0=ys.getD j 0) :
    Calls Tryz.prog 103 #[.slice (some ⟨b1,o1,none⟩) n c1,.slice (some ⟨b2,o2,none⟩) n c2] w fun e w'=>e=.returned (.bool false)∧Below w.heap.size w w':=by
 have K1:Hid (∀ j,j<n→w.cell? ⟨b1,o1+j,none⟩=some (.int .u32 (xs.getD j 0))):=k1;have K2:Hid (∀ j,j<n→w.cell? ⟨b2,o2+j,none⟩=some (.int .u32 (ys.getD j 0))):=k2;have HN:Hid (¬ ∀ j,j<n→xs.getD j 0=ys.getD j 0):=hne;clear k1 k2 hne;go_enter Tryz.func103,Tryz.ntmps103;go_wp2
 go_loopw [5] (fun s wr=>(∃ q,wr=w.drewN q)∧∃ j:Nat,j≤n∧s=.int .i64 j∧Hid (∀ i,i<j→xs.getD i 0=ys.getD i 0)) (fun s _=>n - (intOf s).toNat)
 case atStart=>exact ⟨⟨0,rfl⟩,0,Nat.zero_le _,rfl,fun i hi=>by omega⟩
 case round=>
  obtain ⟨⟨q,rfl⟩,j,hj,rfl,HE⟩:=hrel;by_cases hlt:j<n
  · have g1:=K1.out j hlt
    have g2:=K2.out j hlt;by_cases hpp:xs.getD j 0=ys.getD j 0
    · have HE2:Hid (∀ i,i<j+1→xs.getD i 0=ys.getD i 0):=by
       intro i hi;by_cases h:i=j
       · subst h;exact hpp
       · exact HE.out i (by omega)
      rw [← hpp] at g2;clear hpp;generalize xs.getD j 0=p at *;go_wp2
      go_quiet (fail)
      go_wp2
      go_roundw
      case rel=>exact ⟨⟨_,rfl⟩,j+1,by omega,by go_num,HE2⟩
      case measure=>simp [intOf];omega
    · generalize xs.getD j 0=p at *
      generalize ys.getD j 0=p' at *;have hpb:(p != p')=true:=by rw [bne_iff_ne];exact hpp
      have hpc:(p==p')=false:=by rw [beq_eq_false_iff_ne];exact hpp
      go_wp2
      go_quiet (fail)
      go_wp2
      go_ret
      exact ⟨rfl,below_drewN' (below_drewN' (Below.refl _ _) _) _⟩
  · exact absurd (fun i hi=>HE.out i (by omega)) HN.out
theorem same_len (a1 a2:Option Addr) (n m c1 c2:Nat) (w:World) (h:¬ n=m) :
    Calls Tryz.prog 103 #[.slice a1 n c1,.slice a2 m c2] w fun e w'=>e=.returned (.bool false)∧w=w':=by
 have hb:((n:Int) != (m:Int))=true:=by rw [bne_iff_ne];omega
 have hc:((n:Int)==(m:Int))=false:=by rw [beq_eq_false_iff_ne];omega
 go_enter Tryz.func103,Tryz.ntmps103;go_wp2
 go_ret
 exact ⟨rfl,rfl⟩
theorem refSame_any {B B':Nat} {w:World} {v1 v2:Value} {xs ys:List Int} (h1:Rd B w v1 xs) (h2:Rd B' w v2 ys) :
    Calls Tryz.prog 103 #[v1,v2] w fun e w'=>e=.returned (.bool (decide (xs=ys)))∧Below w.heap.size w w':=by
 by_cases hxy:xs=ys
 · subst hxy
   rw [decide_eq_true rfl];exact same_rd h1 h2
 · rw [decide_eq_false hxy]
   obtain ⟨_,a1,c1,rfl,i1,j1,_,f1⟩:=h1;obtain ⟨_,a2,c2,rfl,i2,j2,_,f2⟩:=h2;by_cases hl:xs.length=ys.length
   · by_cases h0:xs.length=0
     · exact absurd ((List.length_eq_zero_iff.1 h0).trans (List.length_eq_zero_iff.1 (hl ▸ h0)).symm) hxy
     · rcases f1 with f1 | ⟨b1,o1,rfl,_,k1⟩
       · exact absurd f1 h0
       rcases f2 with f2 | ⟨b2,o2,rfl,_,k2⟩
       · exact absurd (hl.trans f2) h0
       rw [← hl];refine (same_no b1 o1 c1 b2 o2 c2 xs.length xs ys w (by omega) k1 (fun j hj=>k2 j (by omega)) ?_).mono ?_
       · intro h
         refine hxy (List.ext_getElem hl fun i h1 h2 => ?_);have:=h i h1;simpa [List.getD,h1,h2] using this
       · exact fun e w' h=>h
   · refine (same_len a1 a2 xs.length ys.length c1 c2 w hl).mono ?_
     rintro e w' ⟨rfl,rfl⟩;exact ⟨rfl,Below.refl _ _⟩
section
variable {w:World} {b:Bool} {a1 a2:Option Addr} {c1 c2:Nat} {ns ds:List Int}
end
theorem WholeIs.unique {k:Int} {b c:Bool} {ns ds ms es:List Int} (h:WholeIs k b ns ds) (h':WholeIs k c ms es):c=b∧ms=ns∧es=ds:=by
 obtain ⟨hb,cn,vn,_,hd⟩:=h;obtain ⟨hb',cn',vn',_,hd'⟩:=h';exact ⟨by rw [hb,hb'],can_inj cn' cn (by rw [vn,vn']),by rw [hd,hd']⟩
section
variable {w:World} {b u:Bool} {a1 a2:Option Addr} {c1 c2:Nat} {xs ys:List Int}
end
section
variable {w:World} {bx cy:Bool} {a1 a2 a3 a4:Option Addr} {c1 c2 c3 c4:Nat} {xn xd yn yd:List Int}
end
/-- Three numbers lie in a list. -/
structure Three (w:World) (Lb:Nat) (x0 x1 x2 y0 y1 y2 z0 z1 z2:Value):Prop where
 lt:Lb<w.heap.size
 k0:w.cell? ⟨Lb,0,none⟩=some x0
 k1:w.cell? ⟨Lb,1,none⟩=some x1
 k2:w.cell? ⟨Lb,2,none⟩=some x2
 k3:w.cell? ⟨Lb,3,none⟩=some y0
 k4:w.cell? ⟨Lb,4,none⟩=some y1
 k5:w.cell? ⟨Lb,5,none⟩=some y2
 k6:w.cell? ⟨Lb,6,none⟩=some z0
 k7:w.cell? ⟨Lb,7,none⟩=some z1
 k8:w.cell? ⟨Lb,8,none⟩=some z2
theorem Three.below {w w':World} {Lb:Nat} {x0 x1 x2 y0 y1 y2 z0 z1 z2:Value} (h:Three w Lb x0 x1 x2 y0 y1 y2 z0 z1 z2) (hb:Below w.heap.size w w'):Three w' Lb x0 x1 x2 y0 y1 y2 z0 z1 z2:=
 ⟨Nat.lt_of_lt_of_le h.lt hb.size,(hb.cell (p:=⟨Lb,0,none⟩) h.lt).trans h.k0,(hb.cell (p:=⟨Lb,1,none⟩) h.lt).trans h.k1,(hb.cell (p:=⟨Lb,2,none⟩) h.lt).trans h.k2,(hb.cell (p:=⟨Lb,3,none⟩) h.lt).trans h.k3,(hb.cell (p:=⟨Lb,4,none⟩) h.lt).trans h.k4,(hb.cell (p:=⟨Lb,5,none⟩) h.lt).trans h.k5,(hb.cell (p:=⟨Lb,6,none⟩) h.lt).trans h.k6,(hb.cell (p:=⟨Lb,7,none⟩) h.lt).trans h.k7,(hb.cell (p:=⟨Lb,8,none⟩) h.lt).trans h.k8⟩
section
variable {Lb:Nat}
variable {w:World} {bt bx cy:Bool} {a1 a2 a3 a4 a5 a6:Option Addr} {c1 c2 c3 c4 c5 c6:Nat} {tn td xn xd yn yd:List Int}
end
section
variable {w:World} {bt bx cy:Bool} {a1 a2 a3 a4 a5 a6:Option Addr} {c1 c2 c3 c4 c5 c6:Nat} {tn td xn xd yn yd:List Int}
end
/-- What two numbers are apart, times both denominators. -/
def apartI (bx:Bool) (xn xd:Int) (cy:Bool) (yn yd:Int):Int:=sg bx xn*yd - sg cy yn*xd
/-- Are two numbers within a tolerance? -/
def WithinI (bt:Bool) (tn td A xn xd yn yd:Int):Prop:=
 (bt=true∧A=0)∨(bt=false∧(A.natAbs:Int)*td*(if xn*yd<yn*xd then yd else xd)≤tn*(if xn*yd<yn*xd then yn else xn)*xd*yd)
section
variable {w:World} {bt bx cy:Bool} {a1 a2 a3 a4 a5 a6:Option Addr} {c1 c2 c3 c4 c5 c6:Nat} {tn td xn xd yn yd:List Int}
end
/-- Which of two is greater, by a tolerance. -/
def TolIs (P W:Prop) (a b r:Int):Prop:=(¬ P→r=0)∧(P→W→r=0)∧(P→¬ W→r=cmpI a b)
theorem TolIs.unique {P W:Prop} {a b r s:Int} (h:TolIs P W a b r) (k:TolIs P W a b s):s=r:=by
 by_cases hP:P
 · by_cases hW:W
   · rw [h.2.1 hP hW,k.2.1 hP hW]
   · rw [h.2.2 hP hW,k.2.2 hP hW]
 · rw [h.1 hP,k.1 hP]
section
variable {w:World} {bt bx cy:Bool} {a1 a2 a3 a4 a5 a6:Option Addr} {c1 c2 c3 c4 c5 c6:Nat} {tn td xn xd yn yd:List Int}
end
def CmpIs (P:Prop) (a b r:Int):Prop:=(¬ P→r=0)∧(P→r=cmpI a b)
theorem CmpIs.unique {P:Prop} {a b r s:Int} (h:CmpIs P a b r) (k:CmpIs P a b s):s=r:=by
 by_cases hP:P
 · rw [h.2 hP,k.2 hP]
 · rw [h.1 hP,k.1 hP]
theorem cmpI_turn (a b:Int):cmpI b a = -(cmpI a b):=by
 rcases Int.lt_trichotomy a b with h | h | h
 · rw [cmpI_lt h,cmpI_gt h];rfl
 · rw [cmpI_eq h,cmpI_eq h.symm];rfl
 · rw [cmpI_gt h,cmpI_lt h]
theorem CmpIs.turn {P Q:Prop} {a b r s:Int} (h:CmpIs (P∧Q) a b r) (k:CmpIs (Q∧P) b a s):s = -r:=by
 by_cases hP:P∧Q
 · rw [h.2 hP,k.2 ⟨hP.2,hP.1⟩,cmpI_turn]
 · rw [h.1 hP,k.1 (fun e=>hP ⟨e.2,e.1⟩)];rfl
theorem within_turn {bt bx cy:Bool} {tn td xn xd yn yd:Int} (hx:0≤xn) (hy:0≤yn) (hd:0<xd) (he:0<yd) (h:WithinI bt tn td (apartI bx xn xd cy yn yd) xn xd yn yd):WithinI bt tn td (apartI cy yn yd bx xn xd) yn yd xn xd:=by
 have hA:apartI cy yn yd bx xn xd = -(apartI bx xn xd cy yn yd):=by unfold apartI;omega
 rw [hA];rcases h with ⟨h1,h2⟩ | ⟨h1,h2⟩
 · exact Or.inl ⟨h1,by omega⟩
 · refine Or.inr ⟨h1,?_⟩
   rw [Int.natAbs_neg];generalize ((apartI bx xn xd cy yn yd).natAbs:Int)=A at *;by_cases hlt:xn*yd<yn*xd
   · rw [if_pos hlt,if_pos hlt] at h2
     rw [if_neg (by omega),if_neg (by omega)];rw [show tn*yn*yd*xd=tn*yn*xd*yd by rw [Int.mul_assoc,Int.mul_comm yd xd,← Int.mul_assoc]];exact h2
   · rw [if_neg hlt,if_neg hlt] at h2
     by_cases hgt:yn*xd<xn*yd
     · rw [if_pos hgt,if_pos hgt]
       rw [show tn*xn*yd*xd=tn*xn*xd*yd by rw [Int.mul_assoc,Int.mul_comm yd xd,← Int.mul_assoc]];exact h2
     · rw [if_neg hgt,if_neg hgt]
       have e1:xn*yd=yn*xd:=by omega
       -- both have one size: what is asked of the one is asked of the other
       have h3:A*td*xd*yd≤tn*xn*xd*yd*yd:=Int.mul_le_mul_of_nonneg_right h2 (by omega);have h4:tn*xn*xd*yd*yd=tn*yn*yd*xd*xd:=by
        rw [show tn*xn*xd*yd*yd=tn*xd*yd*(xn*yd) by simp only [Int.mul_assoc,Int.mul_left_comm,Int.mul_comm],e1];simp only [Int.mul_assoc,Int.mul_left_comm,Int.mul_comm]
       rw [h4] at h3;have h5:A*td*yd*xd≤tn*yn*yd*xd*xd:=by
        rw [show A*td*yd*xd=A*td*xd*yd by rw [Int.mul_assoc,Int.mul_comm yd xd,← Int.mul_assoc]];exact h3
       exact Int.le_of_mul_le_mul_right h5 hd
theorem TolIs.turn {bt bx cy:Bool} {tn td xn xd yn yd:List Int} {r s:Int} (h:TolIs (RightP bt tn td∧RightP bx xn xd∧RightP cy yn yd) (WithinI bt (val tn) (val td) (apartI bx (val xn) (val xd) cy (val yn) (val yd)) (val xn) (val xd) (val yn) (val yd)) (sg bx (val xn)*val yd) (sg cy (val yn)*val xd) r)
    (k:TolIs (RightP bt tn td∧RightP cy yn yd∧RightP bx xn xd) (WithinI bt (val tn) (val td) (apartI cy (val yn) (val yd) bx (val xn) (val xd)) (val yn) (val yd) (val xn) (val xd)) (sg cy (val yn)*val xd) (sg bx (val xn)*val yd) s):s = -r:=by
 by_cases hP:RightP bt tn td∧RightP bx xn xd∧RightP cy yn yd
 · have hP':RightP bt tn td∧RightP cy yn yd∧RightP bx xn xd:=⟨hP.1,hP.2.2,hP.2.1⟩
   have px:=right_pos hP.2.1;have py:=right_pos hP.2.2;by_cases hW:WithinI bt (val tn) (val td) (apartI bx (val xn) (val xd) cy (val yn) (val yd)) (val xn) (val xd) (val yn) (val yd)
   · rw [h.2.1 hP hW,k.2.1 hP' (within_turn px.2 py.2 px.1 py.1 hW)];rfl
   · rw [h.2.2 hP hW,k.2.2 hP' (fun e=>hW (within_turn py.2 px.2 py.1 px.1 e)),cmpI_turn]
 · rw [h.1 hP,k.1 (fun e=>hP ⟨e.1,e.2.2,e.2.1⟩)];rfl
theorem TolIs.zero {bz bx cy:Bool} {zn zd xn xd yn yd:List Int} {r s:Int} (hz:WholeIs 0 bz zn zd) (h:TolIs (RightP bz zn zd∧RightP bx xn xd∧RightP cy yn yd) (WithinI bz (val zn) (val zd) (apartI bx (val xn) (val xd) cy (val yn) (val yd)) (val xn) (val xd) (val yn) (val yd)) (sg bx (val xn)*val yd) (sg cy (val yn)*val xd) r)
    (k:CmpIs (RightP bx xn xd∧RightP cy yn yd) (sg bx (val xn)*val yd) (sg cy (val yn)*val xd) s):s=r:=by
 have hr:=hz.right;by_cases hP:RightP bx xn xd∧RightP cy yn yd
 · have hP':RightP bz zn zd∧RightP bx xn xd∧RightP cy yn yd:=⟨hr,hP⟩
   have px:=right_pos hP.1;have py:=right_pos hP.2;rw [k.2 hP];by_cases hW:WithinI bz (val zn) (val zd) (apartI bx (val xn) (val xd) cy (val yn) (val yd)) (val xn) (val xd) (val yn) (val yd)
   · rw [h.2.1 hP' hW]
     have hA:apartI bx (val xn) (val xd) cy (val yn) (val yd)=0:=by
      rcases hW with ⟨_,e⟩ | ⟨_,e⟩
      · exact e
      · have v0:val zn=0:=hz.2.2.1
        rw [v0,Int.zero_mul,Int.zero_mul,Int.zero_mul,hz.sg.2,Int.mul_one] at e;have hg:0<(if val xn*val yd<val yn*val xd then val yd else val xd):=by split <;> omega
        generalize (if val xn*val yd<val yn*val xd then val yd else val xd)=G at *;have h0:((apartI bx (val xn) (val xd) cy (val yn) (val yd)).natAbs:Int)≤0:=by
         have h9:((apartI bx (val xn) (val xd) cy (val yn) (val yd)).natAbs:Int)*G≤0*G:=by rw [Int.zero_mul];exact e
         exact Int.le_of_mul_le_mul_right h9 hg
        omega
     exact cmpI_eq (by unfold apartI at hA;omega)
   · rw [h.2.2 hP' hW]
 · rw [h.1 (fun e=>hP e.2),k.1 hP]
end Go.Proofs.YtmijanocljmaeaaGreat
