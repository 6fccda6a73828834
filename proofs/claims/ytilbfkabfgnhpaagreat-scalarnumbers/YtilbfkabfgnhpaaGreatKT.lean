/- ref01.Same of any two lists. -/
import Derived.Test.YtilbfkabfgnhpaaGreatKC
set_option maxRecDepth 100000
set_option maxHeartbeats 32000000
set_option linter.unusedVariables false
set_option linter.unusedSimpArgs false
namespace Go.Proofs.YtilbfkabfgnhpaaGreat
open Go.RowKit
theorem same_no (b1 o1 c1 b2 o2 c2 n:Nat) (xs ys:List Int) (w:World) (hb:n≤9223372036854775807)
    (k1:∀ j,j<n→w.cell? ⟨b1,o1+j,none⟩=some (.int .u32 (xs.getD j 0)))
    (k2:∀ j,j<n→w.cell? ⟨b2,o2+j,none⟩=some (.int .u32 (ys.getD j 0))) (hne:¬ ∀ j,j<n→xs.getD j 0=ys.getD j 0) :
    Calls Tryz.prog 30 #[.slice (some ⟨b1,o1,none⟩) n c1,.slice (some ⟨b2,o2,none⟩) n c2] w fun e w'=>e=.returned (.bool false)∧Below w.heap.size w w':=by
 have K1:Hid (∀ j,j<n→w.cell? ⟨b1,o1+j,none⟩=some (.int .u32 (xs.getD j 0))):=k1;have K2:Hid (∀ j,j<n→w.cell? ⟨b2,o2+j,none⟩=some (.int .u32 (ys.getD j 0))):=k2;have HN:Hid (¬ ∀ j,j<n→xs.getD j 0=ys.getD j 0):=hne;clear k1 k2 hne;go_enter Tryz.func30,Tryz.ntmps30;go_wp2
 go_loopw [5] (fun s wr=>(∃ q,wr=w.drewN q)∧∃ j:Nat,j≤n∧s=.int .i64 j∧Hid (∀ i,i<j→xs.getD i 0=ys.getD i 0)) (fun s _=>n - (intOf s).toNat)
 case atStart=>exact ⟨⟨0,rfl⟩,0,Nat.zero_le _,rfl,fun i hi=>by omega⟩
 case round=>
  obtain ⟨⟨q,rfl⟩,j,hj,rfl,HE⟩:=hrel;by_cases hlt:j<n
  · have g1:=K1.out j hlt
    have g2:=K2.out j hlt;by_cases hpp:xs.getD j 0=ys.getD j 0
    · have HE2:Hid (∀ i,i<j+1→xs.getD i 0=ys.getD i 0):=by
       intro i hi;by_cases h:i=j
       · subst h;exact hpp
       · exact HE.out i (by omega)
      rw [← hpp] at g2;clear hpp;generalize xs.getD j 0=p at *;go_wp2
      go_quiet (fail)
      go_wp2
      go_roundw
      case rel=>exact ⟨⟨_,rfl⟩,j+1,by omega,by go_num,HE2⟩
      case measure=>simp [intOf];omega
    · generalize xs.getD j 0=p at *
      generalize ys.getD j 0=p' at *;have hpb:(p != p')=true:=by rw [bne_iff_ne];exact hpp
      have hpc:(p==p')=false:=by rw [beq_eq_false_iff_ne];exact hpp
      go_wp2
      go_quiet (fail)
      go_wp2
      go_ret
      exact ⟨rfl,below_drewN' (below_drewN' (Below.refl _ _) _) _⟩
  · exact absurd (fun i hi=>HE.out i (by omega)) HN.out
theorem same_len (a1 a2:Option Addr) (n m c1 c2:Nat) (w:World) (h:¬ n=m) :
    Calls Tryz.prog 30 #[.slice a1 n c1,.slice a2 m c2] w fun e w'=>e=.returned (.bool false)∧w=w':=by
 have hb:((n:Int) != (m:Int))=true:=by rw [bne_iff_ne];omega
 have hc:((n:Int)==(m:Int))=false:=by rw [beq_eq_false_iff_ne];omega
 go_enter Tryz.func30,Tryz.ntmps30;go_wp2
 go_ret
 exact ⟨rfl,rfl⟩
theorem refSame_any {B B':Nat} {w:World} {v1 v2:Value} {xs ys:List Int} (h1:Rd B w v1 xs) (h2:Rd B' w v2 ys) :
    Calls Tryz.prog 30 #[v1,v2] w fun e w'=>e=.returned (.bool (decide (xs=ys)))∧Below w.heap.size w w':=by
 by_cases hxy:xs=ys
 · subst hxy
   rw [decide_eq_true rfl];exact same_rd h1 h2
 · rw [decide_eq_false hxy]
   obtain ⟨_,a1,c1,rfl,i1,j1,_,f1⟩:=h1;obtain ⟨_,a2,c2,rfl,i2,j2,_,f2⟩:=h2;by_cases hl:xs.length=ys.length
   · by_cases h0:xs.length=0
     · exact absurd ((List.length_eq_zero_iff.1 h0).trans (List.length_eq_zero_iff.1 (hl ▸ h0)).symm) hxy
     · rcases f1 with f1 | ⟨b1,o1,rfl,_,k1⟩
       · exact absurd f1 h0
       rcases f2 with f2 | ⟨b2,o2,rfl,_,k2⟩
       · exact absurd (hl.trans f2) h0
       rw [← hl];refine (same_no b1 o1 c1 b2 o2 c2 xs.length xs ys w (by omega) k1 (fun j hj=>k2 j (by omega)) ?_).mono ?_
       · intro h
         refine hxy (List.ext_getElem hl fun i h1 h2 => ?_);have:=h i h1;simpa [List.getD,h1,h2] using this
       · exact fun e w' h=>h
   · refine (same_len a1 a2 xs.length ys.length c1 c2 w hl).mono ?_
     rintro e w' ⟨rfl,rfl⟩;exact ⟨rfl,Below.refl _ _⟩
section
variable {w:World} {b:Bool} {a1 a2:Option Addr} {c1 c2:Nat} {ns ds:List Int}
end
/-- Limbs and a sign are answered: together they are N. -/
def Signed (w:World) (N:Int) (L:Nat) (e:Ending) (w':World):Prop:=
 Below w.heap.size w w'∧∃ zs a c b,e=.returned (.tuple #[.slice a zs.length c,.bool b])∧can zs∧zs.length≤L∧Hid (sg b (val zs)=N)∧Own w.heap.size w' (.slice a zs.length c) zs
theorem cmp_ge {a b:Int} (h:b≤a):decide (cmpI a b ≥ 0)=true:=by
 rw [decide_eq_true_iff];unfold cmpI;split
 · omega
 · split <;> omega
theorem cmp_nge {a b:Int} (h:a<b):decide (cmpI a b ≥ 0)=false:=by
 rw [decide_eq_false_iff_not,cmpI_lt h];omega
section
variable {w:World} {b u:Bool} {a1 a2:Option Addr} {c1 c2:Nat} {xs ys:List Int}
theorem refSigned_any (h1:Rd w.heap.size w (.slice a1 xs.length c1) xs) (h2:Rd w.heap.size w (.slice a2 ys.length c2) ys) (L:Nat) (l1:xs.length≤L) (l2:ys.length≤L) (hL:L≤1000000) (cx:can xs) (cy:can ys) :
    Calls Tryz.prog 108 #[.slice a1 xs.length c1,.bool b,.slice a2 ys.length c2,.bool u] w fun e w'=>Signed w (sg b (val xs)+sg u (val ys)) (L+1) e w':=by
 have HC:Hid (can xs∧can ys∧0≤val xs∧0≤val ys):=⟨cx,cy,(val_bound cx.1).1,(val_bound cy.1).1⟩;clear cx cy;go_enter Tryz.func108,Tryz.ntmps108;by_cases hbu:b=u
 · subst hbu
   have hbb:(b==b)=true:=by simp
   go_wp2_with fail
   refine (refAdd_any h1 (Nat.le_refl _) h2 (Nat.le_refl _) (by omega) (by omega)).mono ?_;rintro e wa ⟨zs,cz,vz,lz,a,c,rfl,o,k⟩;have HV:Hid (sg b (val zs)=sg b (val xs)+sg b (val ys)):=by
    unfold Hid;rw [vz];unfold sg;split <;> omega
   clear vz;go_wp2
   refine bodyPost_ret (v:=.tuple #[.slice a zs.length c,.bool b]) (by simp [results,Tryz.results108,go_sem]) rfl ?_;exact ⟨k,zs,a,c,b,rfl,cz,by omega,HV,o⟩
 · have hbb:(b==u)=false:=by rw [beq_eq_false_iff_ne];exact hbu
   have HS:Hid (sg b (val xs)+sg u (val ys)=sg b (val xs - val ys)∧sg b (val xs)+sg u (val ys)=sg u (val ys - val xs)):=by
    unfold Hid sg
    cases b <;> cases u <;> simp at hbu ⊢ <;> omega
   clear hbu
   go_wp2_with fail
   refine (refCompare_rd h1 h2 (Nat.le_refl _) (by omega) (by omega)).mono ?_;rintro e wa ⟨rfl,ka⟩;replace h1:=(h1.below ka).mono ka.size;replace h2:=(h2.below ka).mono ka.size;by_cases hle:val ys≤val xs
   · have HL:Hid (val ys≤val xs):=hle
     have hcm:=cmp_ge hle;clear hle;generalize hq:cmpI (val xs) (val ys)=q at *;clear hq
     go_wp2_with fail
     refine (refMinus_any h1 (Nat.le_refl _) h2 (Nat.le_refl _) (by omega) (by omega)).mono ?_;rintro e wb ⟨kb,hm⟩;rw [if_neg (by have:=HL.out;omega)] at hm;obtain ⟨zs,a,c,cz,vz,rfl,oz⟩:=hm;have lz:zs.length≤L:=by
      have h5:=(can_len_pw HC.out.1 L).1 l1;rw [can_len_pw cz,vz];have:=HC.out;omega
     have HV:Hid (sg b (val zs)=sg b (val xs)+sg u (val ys)):=by unfold Hid;rw [HS.out.1,vz]
     clear vz;go_wp2
     refine bodyPost_ret (v:=.tuple #[.slice a zs.length c,.bool b]) (by simp [results,Tryz.results108,go_sem]) rfl ?_;exact ⟨ka.trans (kb.mono ka.size),zs,a,c,b,rfl,cz,by omega,HV,oz.mono ka.size⟩
   · have HL:Hid (val xs<val ys):=by unfold Hid;omega
     have hcm:=cmp_nge HL.out;clear hle;generalize hq:cmpI (val xs) (val ys)=q at *;clear hq
     go_wp2_with fail
     refine (refMinus_any h2 (Nat.le_refl _) h1 (Nat.le_refl _) (by omega) (by omega)).mono ?_;rintro e wb ⟨kb,hm⟩;rw [if_neg (by have:=HL.out;omega)] at hm;obtain ⟨zs,a,c,cz,vz,rfl,oz⟩:=hm;have lz:zs.length≤L:=by
      have h5:=(can_len_pw HC.out.2.1 L).1 l2;rw [can_len_pw cz,vz];have:=HC.out;omega
     have HV:Hid (sg u (val zs)=sg b (val xs)+sg u (val ys)):=by unfold Hid;rw [HS.out.2,vz]
     clear vz;go_wp2
     refine bodyPost_ret (v:=.tuple #[.slice a zs.length c,.bool u]) (by simp [results,Tryz.results108,go_sem]) rfl ?_;exact ⟨ka.trans (kb.mono ka.size),zs,a,c,u,rfl,cz,by omega,HV,oz.mono ka.size⟩
end
theorem signed_cmp {b:Bool} {zs:List Int} {A B:Int} (cz:can zs) (h:sg b (val zs)=A - B):(zs.length=0→cmpI A B=0)∧(¬ zs.length=0→b=true→cmpI A B = -1)∧(¬ zs.length=0→b=false→cmpI A B=1):=by
 have hz:=can_zero cz;have hp:=(val_bound cz.1).1;refine ⟨fun h0 => ?_,fun h0 hb => ?_,fun h0 hb => ?_⟩
 · rw [hz.1 h0,sg_zero] at h;exact cmpI_eq (by omega)
 · subst hb
   have h1:¬ val zs=0:=fun e=>h0 (hz.2 e);have h2:sg true (val zs) = -(val zs):=by simp [sg]
   exact cmpI_lt (by omega)
 · subst hb
   have h1:¬ val zs=0:=fun e=>h0 (hz.2 e);rw [sg_false] at h;exact cmpI_gt (by omega)
section
variable {w:World} {bx cy:Bool} {a1 a2 a3 a4:Option Addr} {c1 c2 c3 c4:Nat} {xn xd yn yd:List Int}
theorem refCompare_rat (h1:Rd w.heap.size w (.slice a1 xn.length c1) xn) (h2:Rd w.heap.size w (.slice a2 xd.length c2) xd) (h3:Rd w.heap.size w (.slice a3 yn.length c3) yn) (h4:Rd w.heap.size w (.slice a4 yd.length c4) yd) :
    Calls Tryz.prog 37 #[.agg #[.bool bx,.slice a1 xn.length c1,.slice a2 xd.length c2],.agg #[.bool cy,.slice a3 yn.length c3,.slice a4 yd.length c4]] w fun e w'=>Below w.heap.size w w'∧Compares (RightP bx xn xd∧RightP cy yn yd) (sg bx (val xn)*val yd) (sg cy (val yn)*val xd) e:=by
 obtain ⟨X,Y,g⟩:=nvar_in2 (bx:=bx) (cy:=cy) h1 h2 h3 h4;clear h1 h2 h3 h4;obtain ⟨X0,X1,X2⟩:=X.cells;go_enter Tryz.func37,Tryz.ntmps37
 go_wp2_with fail
 clear X0 X1 X2;generalize hA:(w.alloc (.cells #[.bool bx,.slice a1 xn.length c1,.slice a2 xd.length c2] 24)).alloc (.cells #[.bool cy,.slice a3 yn.length c3,.slice a4 yd.length c4] 24)=v at *;clear hA;refine (refRight_rat X.rn X.rd).mono ?_;rintro e wa ⟨⟨r,rfl,hr⟩,ka⟩;replace X:=X.below ka;replace Y:=Y.below ka;replace g:=g.trans (ka.mono g.size);clear ka
 cases r with
 | false=>
  have HP:Hid (¬ RightP bx xn xd):=fun h=>by have:=hr.2 h;cases this
  clear hr;go_wp2
  go_ret
  exact ⟨g,0,rfl,fun _=>rfl,fun h=>absurd h.1 HP.out⟩
 | true=>
  have HX:Hid (RightP bx xn xd):=hr.1 rfl;clear hr;obtain ⟨Y0,Y1,Y2⟩:=Y.cells
  go_wp2_with fail
  clear Y0 Y1 Y2;refine (refRight_rat Y.rn Y.rd).mono ?_;rintro e wb ⟨⟨r,rfl,hr⟩,kb⟩;replace X:=X.below kb;replace Y:=Y.below kb;replace g:=g.trans (kb.mono g.size);clear kb
  cases r with
  | false=>
   have HP:Hid (¬ RightP cy yn yd):=fun h=>by have:=hr.2 h;cases this
   clear hr;go_wp2
   go_ret
   exact ⟨g,0,rfl,fun _=>rfl,fun h=>absurd h.2 HP.out⟩
  | true=>
   have HY:Hid (RightP cy yn yd):=hr.1 rfl;clear hr;have l1:=HX.out.1;have l2:=HX.out.2.1;have l3:=HY.out.1;have l4:=HY.out.2.1;go_wp2
   have hcells:∀ {w':World},Below wb.heap.size wb w'→w'.cell? ⟨w.heap.size,0,none⟩=some (.bool bx)∧w'.cell? ⟨w.heap.size,1,none⟩=some (.slice a1 xn.length c1)∧w'.cell? ⟨w.heap.size,2,none⟩=some (.slice a2 xd.length c2)∧w'.cell? ⟨(w.heap.size+1),0,none⟩=some (.bool cy)∧w'.cell? ⟨(w.heap.size+1),1,none⟩=some (.slice a3 yn.length c3)∧w'.cell? ⟨(w.heap.size+1),2,none⟩=some (.slice a4 yd.length c4):=fun hb=>⟨(X.below hb).k0,(X.below hb).k1,(X.below hb).k2,(Y.below hb).k0,(Y.below hb).k1,(Y.below hb).k2⟩;obtain ⟨s0,s1,s2,s3,s4,s5⟩:=hcells (Below.refl _ _)
   go_region_held3 (fun w'=>w'.cell? ⟨w.heap.size,0,none⟩=some (.bool bx)∧w'.cell? ⟨w.heap.size,1,none⟩=some (.slice a1 xn.length c1)∧w'.cell? ⟨w.heap.size,2,none⟩=some (.slice a2 xd.length c2)∧w'.cell? ⟨(w.heap.size+1),0,none⟩=some (.bool cy)∧w'.cell? ⟨(w.heap.size+1),1,none⟩=some (.slice a3 yn.length c3)∧w'.cell? ⟨(w.heap.size+1),2,none⟩=some (.slice a4 yd.length c4))
    (first | (go_keep;done) | exact tw1 | exact tw2 | exact tw3)
    (first
     | (go_at_call_of 65 (Value.slice a1 xn.length c1);refine (refMul_any (w:=wb.drew) X.rn (Nat.le_refl _) Y.rd (Nat.le_refl _) (by omega) (by omega)).mono ?_;rintro e u1 ⟨zs,cz,vz,lz,z1,z2,rfl,oz,j1⟩;have t1:Below wb.heap.size wb u1:=below_undrew (w:=wb) (B:=wb.heap.size) j1;have tw1:=hcells t1;have HZ:Hid (can zs∧val zs=val xn*val yd):=⟨cz,vz⟩;clear vz cz;have lz2:zs.length≤65:=(by omega);clear lz)
     | (have j:=tw1;go_at_call_of 65 (Value.slice a3 yn.length c3);refine (refMul_any (Y.below t1).rn (Nat.le_refl _) (X.below t1).rd (Nat.le_refl _) (by omega) (by omega)).mono ?_;rintro e u2 ⟨ts,ct,vt,lt,z3,z4,rfl,ot,j2⟩;have t2:Below wb.heap.size wb u2:=t1.trans (j2.mono t1.size);have tw2:=hcells t2;have HT:Hid (can ts∧val ts=val yn*val xd):=⟨ct,vt⟩;clear vt ct;have lt2:ts.length≤65:=(by omega);clear lt;have Z:=(oz.rd.below j2).mono j2.size)
     | (have j:=tw2;go_at_call 108;refine (refSigned_any Z ot.rd 65 lz2 lt2 (by decide) HZ.out.1 HT.out.1).mono ?_;rintro e u3 ⟨j3,ss,z5,z6,bs,rfl,cs,ls,hs,os⟩;have t3:Below wb.heap.size wb u3:=t2.trans (j3.mono t2.size);have tw3:=hcells t3;have HS:Hid ((ss.length=0→cmpI (sg bx (val xn)*val yd) (sg cy (val yn)*val xd)=0)∧(¬ ss.length=0→bs=true→cmpI (sg bx (val xn)*val yd) (sg cy (val yn)*val xd) = -1)∧(¬ ss.length=0→bs=false→cmpI (sg bx (val xn)*val yd) (sg cy (val yn)*val xd)=1)):=(signed_cmp cs (by rw [hs.out,HZ.out.2,HT.out.2,sg_not,sg_mul,sg_mul];omega));clear hs))
   all_goals
    have gg:=g.trans (t3.mono g.size);by_cases h0:ss.length=0
    · have hb0:((ss.length:Int)==0)=true:=by rw [beq_iff_eq];omega
      go_wp2
      go_ret
      exact ⟨gg,0,rfl,fun _=>rfl,fun _=>(HS.out.1 h0).symm⟩
    · have hb0:((ss.length:Int)==0)=false:=by rw [beq_eq_false_iff_ne];omega
      cases bs with
      | true=>
       go_wp2
       go_ret
       exact ⟨gg,-1,rfl,fun h=>absurd ⟨HX.out,HY.out⟩ h,fun _=>(HS.out.2.1 h0 (by trivial)).symm⟩
      | false=>
       go_wp2
       go_ret
       exact ⟨gg,1,rfl,fun h=>absurd ⟨HX.out,HY.out⟩ h,fun _=>(HS.out.2.2 h0 (by trivial)).symm⟩
end
/-- Three numbers lie in a list. -/
structure Three (w:World) (Lb:Nat) (x0 x1 x2 y0 y1 y2 z0 z1 z2:Value):Prop where
 lt:Lb<w.heap.size
 k0:w.cell? ⟨Lb,0,none⟩=some x0
 k1:w.cell? ⟨Lb,1,none⟩=some x1
 k2:w.cell? ⟨Lb,2,none⟩=some x2
 k3:w.cell? ⟨Lb,3,none⟩=some y0
 k4:w.cell? ⟨Lb,4,none⟩=some y1
 k5:w.cell? ⟨Lb,5,none⟩=some y2
 k6:w.cell? ⟨Lb,6,none⟩=some z0
 k7:w.cell? ⟨Lb,7,none⟩=some z1
 k8:w.cell? ⟨Lb,8,none⟩=some z2
theorem Three.below {w w':World} {Lb:Nat} {x0 x1 x2 y0 y1 y2 z0 z1 z2:Value} (h:Three w Lb x0 x1 x2 y0 y1 y2 z0 z1 z2) (hb:Below w.heap.size w w'):Three w' Lb x0 x1 x2 y0 y1 y2 z0 z1 z2:=
 ⟨Nat.lt_of_lt_of_le h.lt hb.size,(hb.cell (p:=⟨Lb,0,none⟩) h.lt).trans h.k0,(hb.cell (p:=⟨Lb,1,none⟩) h.lt).trans h.k1,(hb.cell (p:=⟨Lb,2,none⟩) h.lt).trans h.k2,(hb.cell (p:=⟨Lb,3,none⟩) h.lt).trans h.k3,(hb.cell (p:=⟨Lb,4,none⟩) h.lt).trans h.k4,(hb.cell (p:=⟨Lb,5,none⟩) h.lt).trans h.k5,(hb.cell (p:=⟨Lb,6,none⟩) h.lt).trans h.k6,(hb.cell (p:=⟨Lb,7,none⟩) h.lt).trans h.k7,(hb.cell (p:=⟨Lb,8,none⟩) h.lt).trans h.k8⟩
theorem three_new (w:World) (x0 x1 x2 y0 y1 y2 z0 z1 z2:Value) (t:TypeId):Three (w.alloc (.cells #[x0,x1,x2,y0,y1,y2,z0,z1,z2] t)) w.heap.size x0 x1 x2 y0 y1 y2 z0 z1 z2:=
 ⟨by simp,by simp,by simp,by simp,by simp,by simp,by simp,by simp,by simp,by simp⟩
section
variable {Lb:Nat}
variable {w:World} {bt bx cy:Bool} {a1 a2 a3 a4 a5 a6:Option Addr} {c1 c2 c3 c4 c5 c6:Nat} {tn td xn xd yn yd:List Int}
theorem allRight3 (hT:Three w Lb (.bool bt) (.slice a5 tn.length c5) (.slice a6 td.length c6) (.bool bx) (.slice a1 xn.length c1) (.slice a2 xd.length c2) (.bool cy) (.slice a3 yn.length c3) (.slice a4 yd.length c4)) (h1:Rd w.heap.size w (.slice a5 tn.length c5) tn) (h2:Rd w.heap.size w (.slice a6 td.length c6) td) (h3:Rd w.heap.size w (.slice a1 xn.length c1) xn) (h4:Rd w.heap.size w (.slice a2 xd.length c2) xd) (h5:Rd w.heap.size w (.slice a3 yn.length c3) yn) (h6:Rd w.heap.size w (.slice a4 yd.length c4) yd) :
    Calls Tryz.prog 142 #[.slice (some ⟨Lb,0,none⟩) 3 3] w fun e w'=>TellsP (RightP bt tn td∧RightP bx xn xd∧RightP cy yn yd) e∧Below w.heap.size w w':=by
 have hT0:=hT;have b0:=Below.refl w.heap.size w;obtain ⟨lt,k0,k1,k2,k3,k4,k5,k6,k7,k8⟩:=hT;go_enter Tryz.func142,Tryz.ntmps142;go_wp2
 refine wp_loop_rounds 4 ?_;rw [rounds_succ]
 go_wp2_with fail
 have e0:=below_alloc w (.cells #[.bool bt,.slice a5 tn.length c5,.slice a6 td.length c6] 24);have f1:=(h1.below e0).mono e0.size;have f2:=(h2.below e0).mono e0.size;refine (right_rat f1 f2 (Nat.le_refl _)).mono ?_;rintro e wa ⟨⟨r,rfl,hr⟩,ba'⟩;have ba:=e0.trans (ba'.mono e0.size);clear e0 f1 f2 ba';replace b0:=b0.trans (ba.mono b0.size);replace h3:=(h3.below ba).mono ba.size;replace h4:=(h4.below ba).mono ba.size;replace h5:=(h5.below ba).mono ba.size;replace h6:=(h6.below ba).mono ba.size
 cases r with
 | false=>
  have HX:Hid (¬ RightP bt tn td):=fun h=>by have:=hr.2 h;cases this
  clear hr;go_wp2
  go_ret
  exact ⟨TellsP.no (fun h=>HX.out h.1),b0⟩
 | true=>
  have H0:Hid (RightP bt tn td):=hr.1 rfl;clear hr;replace hT0:=hT0.below ba;clear k0 k1 k2 k3 k4 k5 k6 k7 k8 lt;have hT9:=hT0;obtain ⟨lt,k0,k1,k2,k3,k4,k5,k6,k7,k8⟩:=hT9;clear ba;go_wp2
  rw [rounds_succ]
  go_wp2_with fail
  have e0:=below_alloc wa (.cells #[.bool bx,.slice a1 xn.length c1,.slice a2 xd.length c2] 24);have f1:=(h3.below e0).mono e0.size;have f2:=(h4.below e0).mono e0.size;refine (right_rat f1 f2 (Nat.le_refl _)).mono ?_;rintro e wb ⟨⟨r,rfl,hr⟩,ba'⟩;have ba:=e0.trans (ba'.mono e0.size);clear e0 f1 f2 ba';replace b0:=b0.trans (ba.mono b0.size);replace h5:=(h5.below ba).mono ba.size;replace h6:=(h6.below ba).mono ba.size
  cases r with
  | false=>
   have HX:Hid (¬ RightP bx xn xd):=fun h=>by have:=hr.2 h;cases this
   clear hr;go_wp2
   go_ret
   exact ⟨TellsP.no (fun h=>HX.out h.2.1),b0⟩
  | true=>
   have H1:Hid (RightP bx xn xd):=hr.1 rfl;clear hr;replace hT0:=hT0.below ba;clear k0 k1 k2 k3 k4 k5 k6 k7 k8 lt;have hT9:=hT0;obtain ⟨lt,k0,k1,k2,k3,k4,k5,k6,k7,k8⟩:=hT9;clear ba;go_wp2
   rw [rounds_succ]
   go_wp2_with fail
   have e0:=below_alloc wb (.cells #[.bool cy,.slice a3 yn.length c3,.slice a4 yd.length c4] 24);have f1:=(h5.below e0).mono e0.size;have f2:=(h6.below e0).mono e0.size;refine (right_rat f1 f2 (Nat.le_refl _)).mono ?_;rintro e wc ⟨⟨r,rfl,hr⟩,ba'⟩;have ba:=e0.trans (ba'.mono e0.size);clear e0 f1 f2 ba';replace b0:=b0.trans (ba.mono b0.size)
   cases r with
   | false=>
    have HX:Hid (¬ RightP cy yn yd):=fun h=>by have:=hr.2 h;cases this
    clear hr;go_wp2
    go_ret
    exact ⟨TellsP.no (fun h=>HX.out h.2.2),b0⟩
   | true=>
    have H2:Hid (RightP cy yn yd):=hr.1 rfl;clear hr;go_wp2
    rw [rounds_succ];go_wp2
    go_ret
    exact ⟨TellsP.yes ⟨H0.out,H1.out,H2.out⟩,b0⟩
end
theorem prodL {w:World} {Lb k:Nat} {vs:List Value} {xss:List (List Int)} (hm:Many w Lb k vs xss) (hk:k≤1000000) (hs:sumL xss≤17592186044416) :
    Calls Tryz.prog 120 #[.slice (some ⟨Lb,0,none⟩) k k] w fun e w'=>∃ zs,can zs∧val zs=prodV xss∧zs.length≤1+sumL xss∧Makes w e w' zs:=product_any hm hk hs
section
variable {w:World} {bt bx cy:Bool} {a1 a2 a3 a4 a5 a6:Option Addr} {c1 c2 c3 c4 c5 c6:Nat} {tn td xn xd yn yd:List Int}
theorem greater_rat (h1:Rd w.heap.size w (.slice a1 xn.length c1) xn) (h2:Rd w.heap.size w (.slice a2 xd.length c2) xd) (h3:Rd w.heap.size w (.slice a3 yn.length c3) yn) (h4:Rd w.heap.size w (.slice a4 yd.length c4) yd) (l1:xn.length≤32) (l2:xd.length≤32) (l3:yn.length≤32) (l4:yd.length≤32) :
    Calls Tryz.prog 173 #[.agg #[.bool bx,.slice a1 xn.length c1,.slice a2 xd.length c2],.agg #[.bool cy,.slice a3 yn.length c3,.slice a4 yd.length c4]] w fun e w'=>Below w.heap.size w w'∧((e=.returned (.agg #[.bool bx,.slice a1 xn.length c1,.slice a2 xd.length c2])∧Hid (¬ val xn*val yd<val yn*val xd))∨(e=.returned (.agg #[.bool cy,.slice a3 yn.length c3,.slice a4 yd.length c4])∧Hid (val xn*val yd<val yn*val xd))):=by
 obtain ⟨X,Y,g⟩:=nvar_in2 (bx:=bx) (cy:=cy) h1 h2 h3 h4;have kz:=below_alloc ((w.alloc (.cells #[.bool bx,.slice a1 xn.length c1,.slice a2 xd.length c2] 24)).alloc (.cells #[.bool cy,.slice a3 yn.length c3,.slice a4 yd.length c4] 24)) (.cells #[.bool false,.slice none 0 0,.slice none 0 0] 24);have R:=rvar_new ((w.alloc (.cells #[.bool bx,.slice a1 xn.length c1,.slice a2 xd.length c2] 24)).alloc (.cells #[.bool cy,.slice a3 yn.length c3,.slice a4 yd.length c4] 24));rw [World.size_alloc,World.size_alloc] at R;replace X:=X.below kz;replace Y:=Y.below kz;replace g:=g.trans (kz.mono g.size);have sr:w.heap.size≤w.heap.size+1+1:=by omega
 have nx:w.heap.size≠w.heap.size+1+1:=by omega
 have ny:w.heap.size+1≠w.heap.size+1+1:=by omega
 clear kz h1 h2 h3 h4;go_enter Tryz.func173,Tryz.ntmps173;go_wp2
 generalize hA:((w.alloc (.cells #[.bool bx,.slice a1 xn.length c1,.slice a2 xd.length c2] 24)).alloc (.cells #[.bool cy,.slice a3 yn.length c3,.slice a4 yd.length c4] 24)).alloc (.cells #[.bool false,.slice none 0 0,.slice none 0 0] 24)=v at *;clear hA;have hcells:∀ {w':World},Below v.heap.size v w'→w'.cell? ⟨w.heap.size,0,none⟩=some (.bool bx)∧w'.cell? ⟨w.heap.size,1,none⟩=some (.slice a1 xn.length c1)∧w'.cell? ⟨w.heap.size,2,none⟩=some (.slice a2 xd.length c2)∧w'.cell? ⟨(w.heap.size+1),0,none⟩=some (.bool cy)∧w'.cell? ⟨(w.heap.size+1),1,none⟩=some (.slice a3 yn.length c3)∧w'.cell? ⟨(w.heap.size+1),2,none⟩=some (.slice a4 yd.length c4):=fun hb=>⟨(X.below hb).k0,(X.below hb).k1,(X.below hb).k2,(Y.below hb).k0,(Y.below hb).k1,(Y.below hb).k2⟩;obtain ⟨s0,s1,s2,s3,s4,s5⟩:=hcells (Below.refl _ _);have dA0:Rd v.drew.heap.size v.drew (.slice a1 xn.length c1) xn:=X.rn;have dA1:Rd v.drew.heap.size v.drew (.slice a4 yd.length c4) yd:=Y.rd;have dB0:Rd v.drew.heap.size v.drew (.slice a3 yn.length c3) yn:=Y.rn;have dB1:Rd v.drew.heap.size v.drew (.slice a2 xd.length c2) xd:=X.rd;have kA:=below_alloc v.drew (.cells #[.slice a1 xn.length c1,.slice a4 yd.length c4] 22);have kB:=below_alloc v.drew (.cells #[.slice a3 yn.length c3,.slice a2 xd.length c2] 22);have hmA1:=many2 dA0 dA1 (Nat.le_refl _) (Nat.le_refl _);have hmD2:=many2 dB0 dB1 (Nat.le_refl _) (Nat.le_refl _);have hmB1:=hmA1.grow (below_alloc _ (.cells #[.slice a3 yn.length c3,.slice a2 xd.length c2] 22));have hmB2:Many ((v.drew.alloc (.cells #[.slice a1 xn.length c1,.slice a4 yd.length c4] 22)).alloc (.cells #[.slice a3 yn.length c3,.slice a2 xd.length c2] 22)) (v.heap.size+1) 2 [.slice a3 yn.length c3,.slice a2 xd.length c2] [yn,xd]:=by
  have h:=many2 ((dB0.below kA).mono kA.size) ((dB1.below kA).mono kA.size) (Nat.le_refl _) (Nat.le_refl _);simp only [World.size_alloc,World.size_drew] at h;exact h
 have hmC1:Many ((v.drew.alloc (.cells #[.slice a3 yn.length c3,.slice a2 xd.length c2] 22)).alloc (.cells #[.slice a1 xn.length c1,.slice a4 yd.length c4] 22)) (v.heap.size+1) 2 [.slice a1 xn.length c1,.slice a4 yd.length c4] [xn,yd]:=by
  have h:=many2 ((dA0.below kB).mono kB.size) ((dA1.below kB).mono kB.size) (Nat.le_refl _) (Nat.le_refl _);simp only [World.size_alloc,World.size_drew] at h;exact h
 have hmC2:=hmD2.grow (below_alloc _ (.cells #[.slice a1 xn.length c1,.slice a4 yd.length c4] 22))
 go_region_held3 (fun w'=>w'.cell? ⟨w.heap.size,0,none⟩=some (.bool bx)∧w'.cell? ⟨w.heap.size,1,none⟩=some (.slice a1 xn.length c1)∧w'.cell? ⟨w.heap.size,2,none⟩=some (.slice a2 xd.length c2)∧w'.cell? ⟨(w.heap.size+1),0,none⟩=some (.bool cy)∧w'.cell? ⟨(w.heap.size+1),1,none⟩=some (.slice a3 yn.length c3)∧w'.cell? ⟨(w.heap.size+1),2,none⟩=some (.slice a4 yd.length c4))
  (first | (go_keep;done) | exact tw | exact tw2 | exact tw3 | exact hcells (Below.alloc ba ba.size _))
  (first
   | (have j:=tw2;go_at_call 118;refine (compare_bl (oa.below bb (Nat.le_refl _)).rd ob.rd).mono ?_;rintro e wc ⟨rfl,kc⟩;have tc:=tb.trans (kc.mono tb.size);have tw3:=hcells tc)
   | (have j:=tw;go_at_call 120;refine (prodL (xss:=[yn,xd]) (vs:=[.slice a3 yn.length c3,.slice a2 xd.length c2]) (k:=2) (by exact hm2) (by decide) (by simp only [sumL,List.foldl];omega)).mono ?_;rintro e wb ⟨zb,cb,vb,lb,hmb⟩;(first | (obtain ⟨ab,qb,rfl,ob,bb⟩:=Makes.alloc (w:=wa) (o:=(.cells #[.slice a3 yn.length c3,.slice a2 xd.length c2] 22)) hmb;have tb:=ba.trans (bb.mono ba.size);have tw2:=hcells tb) | (obtain ⟨ab,qb,rfl,ob,bb⟩:=hmb;have tb:=ba.trans (bb.mono ba.size);have tw2:=hcells tb));have HB:Hid (val zb=prodV [yn,xd]):=vb;clear vb;simp only [sumL,List.foldl] at lb)
   | (go_at_call 120;refine (prodL (xss:=[xn,yd]) (vs:=[.slice a1 xn.length c1,.slice a4 yd.length c4]) (k:=2) (by first | exact hmA1 | exact hmB1 | exact hmC1) (by decide) (by simp only [sumL,List.foldl];omega)).mono ?_;rintro e wa ⟨za,ca,va,la,hma⟩;(first | (obtain ⟨aa,qa,rfl,oa,ba⟩:=Makes.undrew (Makes.alloc (w:=v.drew) (o:=(.cells #[.slice a1 xn.length c1,.slice a4 yd.length c4] 22)) hma);have tw:=hcells ba;have hm2:=many2 (((Y.rn).below ba).mono ba.size) (((X.rd).below ba).mono ba.size) (Nat.le_refl _) (Nat.le_refl _)) | (obtain ⟨aa,qa,rfl,oa',ba'⟩:=hma;have hm2:=hmB2.grow ba';obtain ⟨aa2,qa2,he2,oa,ba⟩:=Makes.undrew (Makes.alloc (w:=v.drew) (Makes.alloc (w:=v.drew.alloc (.cells #[.slice a1 xn.length c1,.slice a4 yd.length c4] 22)) (⟨aa,qa,rfl,oa',ba'⟩:Makes _ _ wa za)));cases he2;have tw:=hcells ba;clear oa' ba') | (obtain ⟨aa,qa,rfl,oa',ba'⟩:=hma;have hm2:=hmC2.grow ba';obtain ⟨aa2,qa2,he2,oa,ba⟩:=Makes.undrew (Makes.alloc (w:=v.drew) (Makes.alloc (w:=v.drew.alloc (.cells #[.slice a3 yn.length c3,.slice a2 xd.length c2] 22)) (⟨aa,qa,rfl,oa',ba'⟩:Makes _ _ wa za)));cases he2;have tw:=hcells ba;clear oa' ba'));have HA:Hid (val za=prodV [xn,yd]):=va;clear va;simp only [sumL,List.foldl] at la))
 all_goals
  replace X:=X.below tc;replace Y:=Y.below tc;replace R:=R.below tc;replace g:=g.trans (tc.mono g.size);have HC:Hid (val za=val xn*val yd∧val zb=val yn*val xd):=⟨by rw [HA.out];simp [prodV],by rw [HB.out];simp [prodV]⟩;clear s0 s1 s2 s3 s4 s5;obtain ⟨x0,x1,x2⟩:=X.cells;obtain ⟨y0,y1,y2⟩:=Y.cells;have q0:=R.box.c0;have q1:=R.box.c1;have q2:=R.box.c2;have p0:=R.box.f0;have p1:=R.box.f1;have p2:=R.box.f2;rcases Int.lt_trichotomy (val za) (val zb) with hlt | hlt | hlt
  · have hc:=cmpI_lt hlt
    have HL:Hid (val za<val zb):=by unfold Hid;omega
    rw [hc];clear hlt hc;go_wp2
    have hR3:=R.box.set (.bool cy) (.slice a3 yn.length c3) (.slice a4 yd.length c4);have r0:=hR3.c0;have r1:=hR3.c1;have r2:=hR3.c2;refine bodyPost_ret (v:=.agg #[.bool cy,.slice a3 yn.length c3,.slice a4 yd.length c4]) (by simp [results,Tryz.results173,go_sem,r0,r1,r2]) rfl ?_;have h:=HL.out;rw [HC.out.1,HC.out.2] at h;exact ⟨Below.set3 g sr _ _ _,Or.inr ⟨rfl,h⟩⟩
  · have hc:=cmpI_eq hlt
    have HL:Hid (¬ val za<val zb):=by unfold Hid;omega
    rw [hc];clear hlt hc;go_wp2
    have hR3:=R.box.set (.bool bx) (.slice a1 xn.length c1) (.slice a2 xd.length c2);have r0:=hR3.c0;have r1:=hR3.c1;have r2:=hR3.c2;refine bodyPost_ret (v:=.agg #[.bool bx,.slice a1 xn.length c1,.slice a2 xd.length c2]) (by simp [results,Tryz.results173,go_sem,r0,r1,r2]) rfl ?_;have h:=HL.out;rw [HC.out.1,HC.out.2] at h;exact ⟨Below.set3 g sr _ _ _,Or.inl ⟨rfl,h⟩⟩
  · have hc:=cmpI_gt hlt
    have HL:Hid (¬ val za<val zb):=by unfold Hid;omega
    rw [hc];clear hlt hc;go_wp2
    have hR3:=R.box.set (.bool bx) (.slice a1 xn.length c1) (.slice a2 xd.length c2);have r0:=hR3.c0;have r1:=hR3.c1;have r2:=hR3.c2;refine bodyPost_ret (v:=.agg #[.bool bx,.slice a1 xn.length c1,.slice a2 xd.length c2]) (by simp [results,Tryz.results173,go_sem,r0,r1,r2]) rfl ?_;have h:=HL.out;rw [HC.out.1,HC.out.2] at h;exact ⟨Below.set3 g sr _ _ _,Or.inl ⟨rfl,h⟩⟩
end
theorem many4 {B1 B2 B3 B4:Nat} {w:World} {v1 v2 v3 v4:Value} {x1 x2 x3 x4:List Int} (h1:Rd B1 w v1 x1) (h2:Rd B2 w v2 x2) (h3:Rd B3 w v3 x3) (h4:Rd B4 w v4 x4) (b1:B1≤w.heap.size) (b2:B2≤w.heap.size) (b3:B3≤w.heap.size) (b4:B4≤w.heap.size) :
    Many (w.alloc (.cells #[v1,v2,v3,v4] 22)) w.heap.size 4 [v1,v2,v3,v4] [x1,x2,x3,x4] where
 lv:=rfl
 lx:=rfl
 lt:=by simp
 cell:=fun j hj=>by
  match j,hj with
  | 0,_=>simp
  | 1,_=>simp
  | 2,_=>simp
  | 3,_=>simp
 rd:=fun j hj=>by
  rw [show (w.alloc (.cells #[v1,v2,v3,v4] 22)).heap.size=w.heap.size+1 by simp]
  match j,hj with
  | 0,_=>exact rd_alloc h1 b1 _
  | 1,_=>exact rd_alloc h2 b2 _
  | 2,_=>exact rd_alloc h3 b3 _
  | 3,_=>exact rd_alloc h4 b4 _
/-- What two numbers are apart, times both denominators. -/
def apartI (bx:Bool) (xn xd:Int) (cy:Bool) (yn yd:Int):Int:=sg bx xn*yd - sg cy yn*xd
/-- Are two numbers within a tolerance? -/
def WithinI (bt:Bool) (tn td A xn xd yn yd:Int):Prop:=
 (bt=true∧A=0)∨(bt=false∧(A.natAbs:Int)*td*(if xn*yd<yn*xd then yd else xd)≤tn*(if xn*yd<yn*xd then yn else xn)*xd*yd)
theorem sg_abs {b:Bool} {n A:Int} (h:sg b n=A) (hn:0≤n):n=(A.natAbs:Int):=by
 subst h;unfold sg;split <;> omega
section
variable {w:World} {bt bx cy:Bool} {a1 a2 a3 a4 a5 a6:Option Addr} {c1 c2 c3 c4 c5 c6:Nat} {tn td xn xd yn yd:List Int}
theorem within_rat (h1:Rd w.heap.size w (.slice a5 tn.length c5) tn) (h2:Rd w.heap.size w (.slice a6 td.length c6) td) (h3:Rd w.heap.size w (.slice a1 xn.length c1) xn) (h4:Rd w.heap.size w (.slice a2 xd.length c2) xd) (h5:Rd w.heap.size w (.slice a3 yn.length c3) yn) (h6:Rd w.heap.size w (.slice a4 yd.length c4) yd) (R0:Hid (RightP bt tn td)) (R1:Hid (RightP bx xn xd)) (R2:Hid (RightP cy yn yd)) :
    Calls Tryz.prog 143 #[.agg #[.bool bt,.slice a5 tn.length c5,.slice a6 td.length c6],.agg #[.bool bx,.slice a1 xn.length c1,.slice a2 xd.length c2],.agg #[.bool cy,.slice a3 yn.length c3,.slice a4 yd.length c4]] w fun e w'=>TellsP (WithinI bt (val tn) (val td) (apartI bx (val xn) (val xd) cy (val yn) (val yd)) (val xn) (val xd) (val yn) (val yd)) e∧Below w.heap.size w w':=by
 obtain ⟨C,X,Y,g⟩:=nvar_in3 (bx:=bt) (cy:=bx) (dz:=cy) h1 h2 h3 h4 h5 h6;obtain ⟨A,hAA⟩:∃ A,A=apartI bx (val xn) (val xd) cy (val yn) (val yd):=⟨_,rfl⟩;rw [← hAA];have HAA:Hid (A=sg bx (val xn)*val yd - sg cy (val yn)*val xd):=hAA;clear hAA;have l1:=R0.out.1;have l2:=R0.out.2.1;have l3:=R1.out.1;have l4:=R1.out.2.1;have l5:=R2.out.1;have l6:=R2.out.2.1;clear h1 h2 h3 h4 h5 h6;obtain ⟨X0,X1,X2⟩:=X.cells;obtain ⟨Y0,Y1,Y2⟩:=Y.cells;go_enter Tryz.func143,Tryz.ntmps143
 go_wp2_with fail
 clear X0 X1 X2 Y0 Y1 Y2;generalize hA:((w.alloc (.cells #[.bool bt,.slice a5 tn.length c5,.slice a6 td.length c6] 24)).alloc (.cells #[.bool bx,.slice a1 xn.length c1,.slice a2 xd.length c2] 24)).alloc (.cells #[.bool cy,.slice a3 yn.length c3,.slice a4 yd.length c4] 24)=v at *;clear hA;refine (difference_rat X.rn X.rd Y.rn Y.rd (Nat.le_refl _) R1.out R2.out).mono ?_;rintro e wa ⟨ka,bz,zs,z1,z2,rfl,oz,cz,vz,lz⟩;have HZ:Hid (val zs=(A.natAbs:Int)∧can zs):=⟨sg_abs (by rw [vz,sg_not,Int.neg_mul,HAA.out];omega) (val_bound cz.1).1,cz⟩;clear vz cz HAA;replace C:=C.below ka;replace X:=X.below ka;replace Y:=Y.below ka;replace g:=g.trans (ka.mono g.size);clear ka;obtain ⟨C0,C1,C2⟩:=C.cells
 cases bt with
 | true=>
  by_cases h0:zs.length=0
  · have hb0:((zs.length:Int)==0)=true:=by rw [beq_iff_eq];omega
    have HA:Hid (A=0):=by
     have h5:=(can_zero HZ.out.2).1 h0;have h6:=HZ.out.1;unfold Hid;omega
    go_wp2
    go_ret
    exact ⟨⟨_,rfl,⟨fun _=>Or.inl ⟨rfl,HA.out⟩,fun _=>by first | rfl | exact hb0⟩⟩,g⟩
  · have hb0:((zs.length:Int)==0)=false:=by rw [beq_eq_false_iff_ne];omega
    have HA:Hid (¬ A=0):=by
     intro h7;have h6:=HZ.out.1;rw [h7] at h6;exact h0 ((can_zero HZ.out.2).2 (by simpa using h6))
    go_wp2
    go_ret
    refine ⟨⟨_,rfl,⟨fun h => ?_,fun h => ?_⟩⟩,g⟩
    · first | (cases h;done) | exact absurd (h.symm.trans hb0) (by decide)
    · rcases h with ⟨_,h⟩ | ⟨h,_⟩
      · exact absurd h HA.out
      · cases h
 | false=>
  obtain ⟨X0,X1,X2⟩:=X.cells;obtain ⟨Y0,Y1,Y2⟩:=Y.cells
  go_wp2_with fail
  clear C0 C1 C2 X0 X1 X2 Y0 Y1 Y2;refine (greater_rat X.rn X.rd Y.rn Y.rd l3 l4 l5 l6).mono ?_;rintro e wb ⟨kb,hg⟩;replace oz:=oz.below kb (Nat.le_refl _);replace C:=C.below kb;replace X:=X.below kb;replace Y:=Y.below kb;replace g:=g.trans (kb.mono g.size);clear kb;obtain ⟨bm,mn,md,a7,c7,a8,c8,he,m1,m2,n1,n2,HM⟩:∃ bm mn md a7 c7 a8 c8,e=.returned (.agg #[.bool bm,.slice a7 mn.length c7,.slice a8 md.length c8])∧Rd wb.heap.size wb (.slice a7 mn.length c7) mn∧Rd wb.heap.size wb (.slice a8 md.length c8) md∧mn.length≤32∧md.length≤32∧Hid ((val md=if val xn*val yd<val yn*val xd then val yd else val xd)∧val mn=if val xn*val yd<val yn*val xd then val yn else val xn):=by
   rcases hg with ⟨he,hc⟩ | ⟨he,hc⟩
   · exact ⟨_,xn,xd,_,_,_,_,he,X.rn,X.rd,l3,l4,by rw [if_neg hc.out],by rw [if_neg hc.out]⟩
   · exact ⟨_,yn,yd,_,_,_,_,he,Y.rn,Y.rd,l5,l6,by rw [if_pos hc.out],by rw [if_pos hc.out]⟩
  subst he;clear hg;have ka1:=below_alloc wb (.cells #[.bool bm,.slice a7 mn.length c7,.slice a8 md.length c8] 24);have M:=nvar_new (b:=bm) m1 m2;replace C:=C.below ka1;replace X:=X.below ka1;replace Y:=Y.below ka1;replace g:=g.trans (ka1.mono g.size);clear ka1;have oz2:=oz.alloc (.cells #[.bool bm,.slice a7 mn.length c7,.slice a8 md.length c8] 24);have oz3:=oz2.rd;clear m1 m2 oz oz2;go_wp2
  generalize hA:wb.alloc (.cells #[.bool bm,.slice a7 mn.length c7,.slice a8 md.length c8] 24)=u at *;clear hA;have hcells:∀ {w':World},Below u.heap.size u w'→w'.cell? ⟨w.heap.size,0,none⟩=some (.bool false)∧w'.cell? ⟨w.heap.size,1,none⟩=some (.slice a5 tn.length c5)∧w'.cell? ⟨w.heap.size,2,none⟩=some (.slice a6 td.length c6)∧w'.cell? ⟨(w.heap.size+1),0,none⟩=some (.bool bx)∧w'.cell? ⟨(w.heap.size+1),1,none⟩=some (.slice a1 xn.length c1)∧w'.cell? ⟨(w.heap.size+1),2,none⟩=some (.slice a2 xd.length c2)∧w'.cell? ⟨(w.heap.size+1+1),0,none⟩=some (.bool cy)∧w'.cell? ⟨(w.heap.size+1+1),1,none⟩=some (.slice a3 yn.length c3)∧w'.cell? ⟨(w.heap.size+1+1),2,none⟩=some (.slice a4 yd.length c4)∧w'.cell? ⟨wb.heap.size,0,none⟩=some (.bool bm)∧w'.cell? ⟨wb.heap.size,1,none⟩=some (.slice a7 mn.length c7)∧w'.cell? ⟨wb.heap.size,2,none⟩=some (.slice a8 md.length c8):=fun hb=>⟨(C.below hb).k0,(C.below hb).k1,(C.below hb).k2,(X.below hb).k0,(X.below hb).k1,(X.below hb).k2,(Y.below hb).k0,(Y.below hb).k1,(Y.below hb).k2,(M.below hb).k0,(M.below hb).k1,(M.below hb).k2⟩;obtain ⟨s0,s1,s2,s3,s4,s5,s6,s7,s8,s9,s10,s11⟩:=hcells (Below.refl _ _);have dA0:Rd u.drew.heap.size u.drew (.slice z1 zs.length z2) zs:=oz3;have dA1:Rd u.drew.heap.size u.drew (.slice a6 td.length c6) td:=C.rd;have dA2:Rd u.drew.heap.size u.drew (.slice a8 md.length c8) md:=M.rd;have dB0:Rd u.drew.heap.size u.drew (.slice a5 tn.length c5) tn:=C.rn;have dB1:Rd u.drew.heap.size u.drew (.slice a7 mn.length c7) mn:=M.rn;have dB2:Rd u.drew.heap.size u.drew (.slice a2 xd.length c2) xd:=X.rd;have dB3:Rd u.drew.heap.size u.drew (.slice a4 yd.length c4) yd:=Y.rd;have kA:=below_alloc u.drew (.cells #[.slice z1 zs.length z2,.slice a6 td.length c6,.slice a8 md.length c8] 22);have kB:=below_alloc u.drew (.cells #[.slice a5 tn.length c5,.slice a7 mn.length c7,.slice a2 xd.length c2,.slice a4 yd.length c4] 22);have hmA1:=many3 dA0 dA1 dA2 (Nat.le_refl _) (Nat.le_refl _) (Nat.le_refl _);have hmD2:=many4 dB0 dB1 dB2 dB3 (Nat.le_refl _) (Nat.le_refl _) (Nat.le_refl _) (Nat.le_refl _);have hmB1:=hmA1.grow (below_alloc _ (.cells #[.slice a5 tn.length c5,.slice a7 mn.length c7,.slice a2 xd.length c2,.slice a4 yd.length c4] 22));have hmB2:Many ((u.drew.alloc (.cells #[.slice z1 zs.length z2,.slice a6 td.length c6,.slice a8 md.length c8] 22)).alloc (.cells #[.slice a5 tn.length c5,.slice a7 mn.length c7,.slice a2 xd.length c2,.slice a4 yd.length c4] 22)) (u.heap.size+1) 4 [.slice a5 tn.length c5,.slice a7 mn.length c7,.slice a2 xd.length c2,.slice a4 yd.length c4] [tn,mn,xd,yd]:=by
   have h:=many4 ((dB0.below kA).mono kA.size) ((dB1.below kA).mono kA.size) ((dB2.below kA).mono kA.size) ((dB3.below kA).mono kA.size) (Nat.le_refl _) (Nat.le_refl _) (Nat.le_refl _) (Nat.le_refl _);simp only [World.size_alloc,World.size_drew] at h;exact h
  have hmC1:Many ((u.drew.alloc (.cells #[.slice a5 tn.length c5,.slice a7 mn.length c7,.slice a2 xd.length c2,.slice a4 yd.length c4] 22)).alloc (.cells #[.slice z1 zs.length z2,.slice a6 td.length c6,.slice a8 md.length c8] 22)) (u.heap.size+1) 3 [.slice z1 zs.length z2,.slice a6 td.length c6,.slice a8 md.length c8] [zs,td,md]:=by
   have h:=many3 ((dA0.below kB).mono kB.size) ((dA1.below kB).mono kB.size) ((dA2.below kB).mono kB.size) (Nat.le_refl _) (Nat.le_refl _) (Nat.le_refl _);simp only [World.size_alloc,World.size_drew] at h;exact h
  have hmC2:=hmD2.grow (below_alloc _ (.cells #[.slice z1 zs.length z2,.slice a6 td.length c6,.slice a8 md.length c8] 22))
  go_region_held3 (fun w'=>w'.cell? ⟨w.heap.size,0,none⟩=some (.bool false)∧w'.cell? ⟨w.heap.size,1,none⟩=some (.slice a5 tn.length c5)∧w'.cell? ⟨w.heap.size,2,none⟩=some (.slice a6 td.length c6)∧w'.cell? ⟨(w.heap.size+1),0,none⟩=some (.bool bx)∧w'.cell? ⟨(w.heap.size+1),1,none⟩=some (.slice a1 xn.length c1)∧w'.cell? ⟨(w.heap.size+1),2,none⟩=some (.slice a2 xd.length c2)∧w'.cell? ⟨(w.heap.size+1+1),0,none⟩=some (.bool cy)∧w'.cell? ⟨(w.heap.size+1+1),1,none⟩=some (.slice a3 yn.length c3)∧w'.cell? ⟨(w.heap.size+1+1),2,none⟩=some (.slice a4 yd.length c4)∧w'.cell? ⟨wb.heap.size,0,none⟩=some (.bool bm)∧w'.cell? ⟨wb.heap.size,1,none⟩=some (.slice a7 mn.length c7)∧w'.cell? ⟨wb.heap.size,2,none⟩=some (.slice a8 md.length c8))
   (first | (go_keep;done) | exact tw | exact tw2 | exact tw3 | exact hcells (Below.alloc ba ba.size _))
   (first
    | (have j:=tw2;go_at_call 118;refine (compare_bl (oa.below bb (Nat.le_refl _)).rd ob.rd).mono ?_;rintro e wc ⟨rfl,kc⟩;have tc:=tb.trans (kc.mono tb.size);have tw3:=hcells tc)
    | (have j:=tw;go_at_call 120;refine (prodL (xss:=[tn,mn,xd,yd]) (vs:=[.slice a5 tn.length c5,.slice a7 mn.length c7,.slice a2 xd.length c2,.slice a4 yd.length c4]) (k:=4) (by exact hm2) (by decide) (by simp only [sumL,List.foldl];omega)).mono ?_;rintro e wb ⟨zb,cb,vb,lb,hmb⟩;(first | (obtain ⟨ab,qb,rfl,ob,bb⟩:=Makes.alloc (w:=wa) (o:=(.cells #[.slice a5 tn.length c5,.slice a7 mn.length c7,.slice a2 xd.length c2,.slice a4 yd.length c4] 22)) hmb;have tb:=ba.trans (bb.mono ba.size);have tw2:=hcells tb) | (obtain ⟨ab,qb,rfl,ob,bb⟩:=hmb;have tb:=ba.trans (bb.mono ba.size);have tw2:=hcells tb));have HB:Hid (val zb=prodV [tn,mn,xd,yd]):=vb;clear vb;simp only [sumL,List.foldl] at lb)
    | (go_at_call 120;refine (prodL (xss:=[zs,td,md]) (vs:=[.slice z1 zs.length z2,.slice a6 td.length c6,.slice a8 md.length c8]) (k:=3) (by first | exact hmA1 | exact hmB1 | exact hmC1) (by decide) (by simp only [sumL,List.foldl];omega)).mono ?_;rintro e wa ⟨za,ca,va,la,hma⟩;(first | (obtain ⟨aa,qa,rfl,oa,ba⟩:=Makes.undrew (Makes.alloc (w:=u.drew) (o:=(.cells #[.slice z1 zs.length z2,.slice a6 td.length c6,.slice a8 md.length c8] 22)) hma);have tw:=hcells ba;have hm2:=many4 (((C.rn).below ba).mono ba.size) (((M.rn).below ba).mono ba.size) (((X.rd).below ba).mono ba.size) (((Y.rd).below ba).mono ba.size) (Nat.le_refl _) (Nat.le_refl _) (Nat.le_refl _) (Nat.le_refl _)) | (obtain ⟨aa,qa,rfl,oa',ba'⟩:=hma;have hm2:=hmB2.grow ba';obtain ⟨aa2,qa2,he2,oa,ba⟩:=Makes.undrew (Makes.alloc (w:=u.drew) (Makes.alloc (w:=u.drew.alloc (.cells #[.slice z1 zs.length z2,.slice a6 td.length c6,.slice a8 md.length c8] 22)) (⟨aa,qa,rfl,oa',ba'⟩:Makes _ _ wa za)));cases he2;have tw:=hcells ba;clear oa' ba') | (obtain ⟨aa,qa,rfl,oa',ba'⟩:=hma;have hm2:=hmC2.grow ba';obtain ⟨aa2,qa2,he2,oa,ba⟩:=Makes.undrew (Makes.alloc (w:=u.drew) (Makes.alloc (w:=u.drew.alloc (.cells #[.slice a5 tn.length c5,.slice a7 mn.length c7,.slice a2 xd.length c2,.slice a4 yd.length c4] 22)) (⟨aa,qa,rfl,oa',ba'⟩:Makes _ _ wa za)));cases he2;have tw:=hcells ba;clear oa' ba'));have HA:Hid (val za=prodV [zs,td,md]):=va;clear va;simp only [sumL,List.foldl] at la))
  all_goals
   have gg:=g.trans (tc.mono g.size);have HC:Hid (val za=(A.natAbs:Int)*val td*(if val xn*val yd<val yn*val xd then val yd else val xd)∧val zb=val tn*(if val xn*val yd<val yn*val xd then val yn else val xn)*val xd*val yd):=⟨by rw [HA.out,← HM.out.1,← HZ.out.1];simp [prodV],by rw [HB.out,← HM.out.2];simp [prodV]⟩;clear HA HB HM HZ;rcases Int.lt_trichotomy (val za) (val zb) with hlt | hlt | hlt
   · have hc:=cmpI_lt hlt
     have HL:Hid (val za≤val zb):=by unfold Hid;omega
     rw [hc];clear hlt hc;go_wp2
     go_ret
     have h:=HL.out;rw [HC.out.1,HC.out.2] at h;exact ⟨TellsP.yes (Or.inr ⟨rfl,h⟩),gg⟩
   · have hc:=cmpI_eq hlt
     have HL:Hid (val za≤val zb):=by unfold Hid;omega
     rw [hc];clear hlt hc;go_wp2
     go_ret
     have h:=HL.out;rw [HC.out.1,HC.out.2] at h;exact ⟨TellsP.yes (Or.inr ⟨rfl,h⟩),gg⟩
   · have hc:=cmpI_gt hlt
     have HL:Hid (¬ val za≤val zb):=by unfold Hid;omega
     rw [hc];clear hlt hc;go_wp2
     go_ret
     have h:=HL.out;rw [HC.out.1,HC.out.2] at h;refine ⟨TellsP.no (fun h7 => ?_),gg⟩;rcases h7 with ⟨h7,_⟩ | ⟨_,h7⟩
     · cases h7
     · exact absurd h7 (by omega)
end
/-- Which of two is greater, by a tolerance. -/
def TolIs (P W:Prop) (a b r:Int):Prop:=(¬ P→r=0)∧(P→W→r=0)∧(P→¬ W→r=cmpI a b)
theorem TolIs.unique {P W:Prop} {a b r s:Int} (h:TolIs P W a b r) (k:TolIs P W a b s):s=r:=by
 by_cases hP:P
 · by_cases hW:W
   · rw [h.2.1 hP hW,k.2.1 hP hW]
   · rw [h.2.2 hP hW,k.2.2 hP hW]
 · rw [h.1 hP,k.1 hP]
def Tols (P W:Prop) (a b:Int) (e:Ending):Prop:=∃ r:Int,e=.returned (.int .i64 r)∧Hid (TolIs P W a b r)
section
variable {w:World} {bt bx cy:Bool} {a1 a2 a3 a4 a5 a6:Option Addr} {c1 c2 c3 c4 c5 c6:Nat} {tn td xn xd yn yd:List Int}
theorem tolerant_rat (h1:Rd w.heap.size w (.slice a5 tn.length c5) tn) (h2:Rd w.heap.size w (.slice a6 td.length c6) td) (h3:Rd w.heap.size w (.slice a1 xn.length c1) xn) (h4:Rd w.heap.size w (.slice a2 xd.length c2) xd) (h5:Rd w.heap.size w (.slice a3 yn.length c3) yn) (h6:Rd w.heap.size w (.slice a4 yd.length c4) yd) :
    Calls Tryz.prog 85 #[.agg #[.bool bt,.slice a5 tn.length c5,.slice a6 td.length c6],.agg #[.bool bx,.slice a1 xn.length c1,.slice a2 xd.length c2],.agg #[.bool cy,.slice a3 yn.length c3,.slice a4 yd.length c4]] w fun e w'=>Below w.heap.size w w'∧Tols (RightP bt tn td∧RightP bx xn xd∧RightP cy yn yd) (WithinI bt (val tn) (val td) (apartI bx (val xn) (val xd) cy (val yn) (val yd)) (val xn) (val xd) (val yn) (val yd)) (sg bx (val xn)*val yd) (sg cy (val yn)*val xd) e:=by
 obtain ⟨C,X,Y,g⟩:=nvar_in3 (bx:=bt) (cy:=bx) (dz:=cy) h1 h2 h3 h4 h5 h6;have hT:=three_new (((w.alloc (.cells #[.bool bt,.slice a5 tn.length c5,.slice a6 td.length c6] 24)).alloc (.cells #[.bool bx,.slice a1 xn.length c1,.slice a2 xd.length c2] 24)).alloc (.cells #[.bool cy,.slice a3 yn.length c3,.slice a4 yd.length c4] 24)) (.bool bt) (.slice a5 tn.length c5) (.slice a6 td.length c6) (.bool bx) (.slice a1 xn.length c1) (.slice a2 xd.length c2) (.bool cy) (.slice a3 yn.length c3) (.slice a4 yd.length c4) 24;have kl:=below_alloc (((w.alloc (.cells #[.bool bt,.slice a5 tn.length c5,.slice a6 td.length c6] 24)).alloc (.cells #[.bool bx,.slice a1 xn.length c1,.slice a2 xd.length c2] 24)).alloc (.cells #[.bool cy,.slice a3 yn.length c3,.slice a4 yd.length c4] 24)) (.cells #[.bool bt,.slice a5 tn.length c5,.slice a6 td.length c6,.bool bx,.slice a1 xn.length c1,.slice a2 xd.length c2,.bool cy,.slice a3 yn.length c3,.slice a4 yd.length c4] 24);obtain ⟨C0,C1,C2⟩:=C.cells;obtain ⟨X0,X1,X2⟩:=X.cells;obtain ⟨Y0,Y1,Y2⟩:=Y.cells;have C':=C.below kl;have X':=X.below kl;have Y':=Y.below kl;have g':=g.trans (kl.mono g.size);clear h1 h2 h3 h4 h5 h6 kl;simp only [World.size_alloc] at hT;go_enter Tryz.func85,Tryz.ntmps85
 go_wp2_with fail
 clear C0 C1 C2 X0 X1 X2 Y0 Y1 Y2;replace C:=C';replace X:=X';replace Y:=Y';replace g:=g';clear C' X' Y' g';generalize hA:(((w.alloc (.cells #[.bool bt,.slice a5 tn.length c5,.slice a6 td.length c6] 24)).alloc (.cells #[.bool bx,.slice a1 xn.length c1,.slice a2 xd.length c2] 24)).alloc (.cells #[.bool cy,.slice a3 yn.length c3,.slice a4 yd.length c4] 24)).alloc (.cells #[.bool bt,.slice a5 tn.length c5,.slice a6 td.length c6,.bool bx,.slice a1 xn.length c1,.slice a2 xd.length c2,.bool cy,.slice a3 yn.length c3,.slice a4 yd.length c4] 24)=v at *;clear hA;refine (allRight3 hT C.rn C.rd X.rn X.rd Y.rn Y.rd).mono ?_;rintro e wa ⟨⟨r,rfl,hr⟩,ka⟩;replace C:=C.below ka;replace X:=X.below ka;replace Y:=Y.below ka;replace g:=g.trans (ka.mono g.size);clear ka hT
 cases r with
 | false=>
  have HP:Hid (¬ (RightP bt tn td∧RightP bx xn xd∧RightP cy yn yd)):=fun h=>by have:=hr.2 h;cases this
  clear hr;go_wp2
  go_ret
  exact ⟨g,0,rfl,fun _=>rfl,fun h=>absurd h HP.out,fun h=>absurd h HP.out⟩
 | true=>
  have HP:Hid (RightP bt tn td∧RightP bx xn xd∧RightP cy yn yd):=hr.1 rfl;clear hr;obtain ⟨C0,C1,C2⟩:=C.cells;obtain ⟨X0,X1,X2⟩:=X.cells;obtain ⟨Y0,Y1,Y2⟩:=Y.cells
  go_wp2_with fail
  clear C0 C1 C2 X0 X1 X2 Y0 Y1 Y2;refine (within_rat C.rn C.rd X.rn X.rd Y.rn Y.rd HP.out.1 HP.out.2.1 HP.out.2.2).mono ?_;rintro e wb ⟨⟨r,rfl,hr⟩,kb⟩;replace C:=C.below kb;replace X:=X.below kb;replace Y:=Y.below kb;replace g:=g.trans (kb.mono g.size);clear kb
  cases r with
  | true=>
   have HW:Hid (WithinI bt (val tn) (val td) (apartI bx (val xn) (val xd) cy (val yn) (val yd)) (val xn) (val xd) (val yn) (val yd)):=hr.1 rfl;clear hr;go_wp2
   go_ret
   exact ⟨g,0,rfl,fun _=>rfl,fun _ _=>rfl,fun _ h=>absurd HW.out h⟩
  | false=>
   have HW:Hid (¬ WithinI bt (val tn) (val td) (apartI bx (val xn) (val xd) cy (val yn) (val yd)) (val xn) (val xd) (val yn) (val yd)):=fun h=>by have:=hr.2 h;cases this
   clear hr;obtain ⟨X0,X1,X2⟩:=X.cells;obtain ⟨Y0,Y1,Y2⟩:=Y.cells
   go_wp2_with fail
   clear X0 X1 X2 Y0 Y1 Y2;refine (compare_rat X.rn X.rd Y.rn Y.rd (Nat.le_refl _)).mono ?_;rintro e wc ⟨kc,rc,rfl,-,hc⟩;have HC:Hid (rc=cmpI (sg bx (val xn)*val yd) (sg cy (val yn)*val xd)):=hc ⟨HP.out.2.1,HP.out.2.2⟩;clear hc;go_wp2
   go_ret
   exact ⟨g.trans (kc.mono g.size),rc,rfl,fun h=>absurd HP.out h,fun _ h=>absurd h HW.out,fun _ _=>HC.out⟩
end
end Go.Proofs.YtilbfkabfgnhpaaGreat
