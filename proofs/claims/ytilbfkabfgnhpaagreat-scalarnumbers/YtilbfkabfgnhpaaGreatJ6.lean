/- Two numbers come in, a number goes out: the variables. rat.Sub, rat.Sign. -/
import Derived.Test.YtilbfkabfgnhpaaGreatJ4
import Derived.Test.YtilbfkabfgnhpaaGreatJ5
import Derived.Test.YtilbfkabfgnhpaaGreatJ2
import Derived.Test.YtilbfkabfgnhpaaGreatJ3
import Derived.Deep.RegionHeld3
set_option maxRecDepth 100000
set_option maxHeartbeats 16000000
set_option linter.unusedVariables false
set_option linter.unusedSimpArgs false
namespace Go.Proofs.YtilbfkabfgnhpaaGreat
open Go.RowKit
/-- What lies in memory where two numbers have come in, a result's variable is laid, and both were laid into a list. -/
structure In2 (w W:World) (x0 x1 x2 y0 y1 y2:Value):Prop where
 X:Box3 W w.heap.size 24 x0 x1 x2
 Y:Box3 W (w.heap.size+1) 24 y0 y1 y2
 R:Box3 W (w.heap.size+1+1) 24 (.bool false) (.slice none 0 0) (.slice none 0 0)
 T:Two W (w.heap.size+1+1+1) x0 x1 x2 y0 y1 y2
 b:Below w.heap.size w W
 s:w.heap.size+1+1+1<W.heap.size
theorem in2_new (w:World) (x0 x1 x2 y0 y1 y2:Value):In2 w ((((w.alloc (.cells #[x0,x1,x2] 24)).alloc (.cells #[y0,y1,y2] 24)).alloc (.cells #[.bool false,.slice none 0 0,.slice none 0 0] 24)).alloc (.cells #[x0,x1,x2,y0,y1,y2] 24)) x0 x1 x2 y0 y1 y2 where
 X:=(((box3_new w _ _ _ _).below (below_alloc _ _) (by simp)).below (below_alloc _ _) (by simp <;> omega)).below (below_alloc _ _) (by simp <;> omega)
 Y:=by
  have h5:=((box3_new (w.alloc (.cells #[x0,x1,x2] 24)) y0 y1 y2 24).below (below_alloc _ (.cells #[.bool false,.slice none 0 0,.slice none 0 0] 24)) (by simp)).below (below_alloc _ (.cells #[x0,x1,x2,y0,y1,y2] 24)) (by simp <;> omega);simpa using h5
 R:=by
  have h5:=(box3_new ((w.alloc (.cells #[x0,x1,x2] 24)).alloc (.cells #[y0,y1,y2] 24)) (.bool false) (.slice none 0 0) (.slice none 0 0) 24).below (below_alloc _ (.cells #[x0,x1,x2,y0,y1,y2] 24)) (by simp);simpa using h5
 T:=by
  have h5:=two_new (((w.alloc (.cells #[x0,x1,x2] 24)).alloc (.cells #[y0,y1,y2] 24)).alloc (.cells #[.bool false,.slice none 0 0,.slice none 0 0] 24)) x0 x1 x2 y0 y1 y2 24;simp only [World.size_alloc] at h5;exact h5
 b:=(((below_alloc w _).alloc (by simp) _).alloc (by simp <;> omega) _).alloc (by simp <;> omega) _
 s:=by simp
/-- An answer with an error. -/
theorem gives_err {w w2:World} {P:Prop} {N D:Int} (hP:¬ P) (hb:Below w.heap.size w w2):Gives w P N D (.returned (.tuple #[.agg #[.bool false,.slice none 0 0,.slice none 0 0],.int .i64 22])) w2:=
 ⟨hb,false,none,0,0,none,0,0,22,rfl,Or.inl ⟨hP,rfl,rfl,rfl,rfl,rfl,rfl,rfl,rfl⟩⟩
/-- What was made is what is given. -/
theorem RMakes.gives {w w':World} {P:Prop} {N D:Int} {e:Ending} (h:RMakes w N D e w') (hP:P):Gives w P N D e w':=by
 obtain ⟨hb,b,x1,n,y1,x2,m,y2,err,rfl,hf⟩:=h.form;refine ⟨hb,b,x1,n,y1,x2,m,y2,err,rfl,?_⟩;rcases hf.out with h | h
 · exact Or.inr (Or.inl ⟨hP,h⟩)
 · exact Or.inr (Or.inr ⟨hP,h⟩)
theorem Box3.set0 {w:World} {B ty:Nat} {x y z:Value} (h:Box3 w B ty x y z) (v:Value):Box3 (w.setCell ⟨B,0,none⟩ v) B ty v y z:=by
 unfold Box3 at h ⊢;simp [World.setCell,Array.getElem?_modify,h]
theorem Box3.apart {w:World} {B ty:Nat} {x y z:Value} (h:Box3 w B ty x y z) {p:Addr} (hp:p.block≠B) (v:Value):Box3 (w.setCell p v) B ty x y z:=by
 unfold Box3 at h ⊢;have:¬ p.block=B:=hp;simp [World.setCell,Array.getElem?_modify,h,this]
section
variable {B:Nat} {w:World} {bx cy:Bool} {a1 a2 a3 a4:Option Addr} {c1 c2 c3 c4:Nat} {xn xd yn yd:List Int}
theorem sub_rat (h1:Rd B w (.slice a1 xn.length c1) xn) (h2:Rd B w (.slice a2 xd.length c2) xd) (h3:Rd B w (.slice a3 yn.length c3) yn) (h4:Rd B w (.slice a4 yd.length c4) yd) (hB:B≤w.heap.size) :
    Calls Tryz.prog 88 #[.agg #[.bool bx,.slice a1 xn.length c1,.slice a2 xd.length c2],.agg #[.bool cy,.slice a3 yn.length c3,.slice a4 yd.length c4]] w fun e w'=>Gives w (RightP bx xn xd∧RightP cy yn yd) (sg bx (val xn)*val yd+sg (!cy) (val yn)*val xd) (val xd*val yd) e w':=by
 have I:=in2_new w (.bool bx) (.slice a1 xn.length c1) (.slice a2 xd.length c2) (.bool cy) (.slice a3 yn.length c3) (.slice a4 yd.length c4);go_enter Tryz.func88,Tryz.ntmps88
 go_wp2_with fail
 generalize hA:((((w.alloc (.cells #[.bool bx,.slice a1 xn.length c1,.slice a2 xd.length c2] 24)).alloc (.cells #[.bool cy,.slice a3 yn.length c3,.slice a4 yd.length c4] 24)).alloc (.cells #[.bool false,.slice none 0 0,.slice none 0 0] 24)).alloc (.cells #[.bool bx,.slice a1 xn.length c1,.slice a2 xd.length c2,.bool cy,.slice a3 yn.length c3,.slice a4 yd.length c4] 24))=wQ at *;clear hA;obtain ⟨hX,hY,hR,hT,b0,s0⟩:=I;refine (allRight2 hT (h1.below (b0.mono hB)) (h2.below (b0.mono hB)) (h3.below (b0.mono hB)) (h4.below (b0.mono hB)) (by omega)).mono ?_;rintro e wa ⟨⟨r,rfl,hr⟩,ba⟩;have sa:=ba.size;have bwa:Below w.heap.size w wa:=b0.trans (ba.mono (by omega));have hRa:=hR.below ba (by omega)
 cases r with
 | false=>
  have HP:Hid (¬ (RightP bx xn xd∧RightP cy yn yd)):=fun h=>by have:=hr.2 h;cases this
  clear hr;have q0:=hRa.c0;have q1:=hRa.c1;have q2:=hRa.c2;have p0:=hRa.f0;have p1:=hRa.f1;have p2:=hRa.f2;go_wp2
  have hR3:=hRa.set (.bool false) (.slice none 0 0) (.slice none 0 0);have r0:=hR3.c0;have r1:=hR3.c1;have r2:=hR3.c2;refine bodyPost_ret (v:=.tuple #[.agg #[.bool false,.slice none 0 0,.slice none 0 0],.int .i64 22]) (by simp [results,Tryz.results88,go_sem,r0,r1,r2]) rfl ?_;exact gives_err HP.out (Below.set3 bwa (by omega) _ _ _)
 | true=>
  have HP:Hid (RightP bx xn xd∧RightP cy yn yd):=hr.1 rfl;clear hr;have hXa:=hX.below ba (by omega);have hYa:=hY.below ba (by omega);have y0:=hYa.c0;have y3:=hYa.f0;have hYb:=hYa.set0 (.bool (!cy));have hXb:=hXa.apart (p:=⟨w.heap.size+1,0,none⟩) (by simp) (.bool (!cy));have hRb:=hRa.apart (p:=⟨w.heap.size+1,0,none⟩) (by simp) (.bool (!cy));have bwb:Below w.heap.size w (wa.setCell ⟨w.heap.size+1,0,none⟩ (.bool (!cy))):=bwa.setCell (p:=⟨w.heap.size+1,0,none⟩) (by simp) _;have sb:(wa.setCell ⟨w.heap.size+1,0,none⟩ (.bool (!cy))).heap.size=wa.heap.size:=by simp [World.setCell]
  have k0:=hXb.c0;have k1:=hXb.c1;have k2:=hXb.c2;have k3:=hYb.c0;have k4:=hYb.c1;have k5:=hYb.c2;have hpl:=plus_weak (bx:=bx) (cy:=!cy) (h1.below (bwb.mono hB)) (h2.below (bwb.mono hB)) (h3.below (bwb.mono hB)) (h4.below (bwb.mono hB)) (by omega) HP.out.1.weak HP.out.2.weak
  go_wp2_with fail
  clear k0 k1 k2 k3 k4 k5 y0 y3;generalize hA:wa.setCell ⟨w.heap.size+1,0,none⟩ (.bool (!cy))=wb at *;clear hA;refine hpl.mono ?_;intro e w6 hm6;obtain ⟨bm6,b6,x5,n5,y5,x6,n6,y6,err,rfl,hform⟩:=hm6.form;have hRc:=hRb.below bm6 (by omega);have q0:=hRc.c0;have q1:=hRc.c1;have q2:=hRc.c2;have p0:=hRc.f0;have p1:=hRc.f1;have p2:=hRc.f2;clear hpl hm6;go_wp2
  have hR3:=hRc.set (.bool b6) (.slice x5 n5 y5) (.slice x6 n6 y6);have r0:=hR3.c0;have r1:=hR3.c1;have r2:=hR3.c2;refine bodyPost_ret (v:=.tuple #[.agg #[.bool b6,.slice x5 n5 y5,.slice x6 n6 y6],.int .i64 err]) (by simp [results,Tryz.results88,go_sem,r0,r1,r2]) rfl ?_;exact (rform_done bwb (by omega) (by omega) bm6 hform).gives HP.out
/-- What rat.Sign answers. -/
def Signs (P:Prop) (b:Bool) (ns:List Int) (e:Ending):Prop:=∃ r:Int,e=.returned (.int .i64 r)∧Hid ((¬ P→r=0)∧(P→r=cmpI (sg b (val ns)) 0))
theorem sign_rat (h1:Rd w.heap.size w (.slice a1 xn.length c1) xn) (h2:Rd w.heap.size w (.slice a2 xd.length c2) xd) :
    Calls Tryz.prog 46 #[.agg #[.bool bx,.slice a1 xn.length c1,.slice a2 xd.length c2]] w fun e w'=>Below w.heap.size w w'∧Signs (RightP bx xn xd) bx xn e:=by
 have X:=nvar_new (b:=bx) h1 h2;have b0:=below_alloc w (.cells #[.bool bx,.slice a1 xn.length c1,.slice a2 xd.length c2] 24);obtain ⟨k0,k1,k2⟩:=X.cells;go_enter Tryz.func46,Tryz.ntmps46
 go_wp2_with fail
 clear k0 k1 k2;generalize hA:w.alloc (.cells #[.bool bx,.slice a1 xn.length c1,.slice a2 xd.length c2] 24)=v at *;clear hA;refine (right_rat X.rn X.rd (Nat.le_refl _)).mono ?_;rintro e wa ⟨⟨r,rfl,hr⟩,ba⟩;replace X:=X.below ba;have g1:Below w.heap.size w wa:=b0.trans (ba.mono b0.size);obtain ⟨k0,k1,k2⟩:=X.cells
 cases r with
 | false=>
  have HP:Hid (¬ RightP bx xn xd):=fun h=>by have:=hr.2 h;cases this
  clear hr;go_wp2
  go_ret
  exact ⟨g1,0,rfl,fun _=>rfl,fun h=>absurd h HP.out⟩
 | true=>
  have HP:Hid (RightP bx xn xd):=hr.1 rfl;clear hr;by_cases h0:0<xn.length
  · have hb:((xn.length:Int)==0)=false:=by rw [beq_eq_false_iff_ne];omega
    have HV:Hid (0<val xn):=by
     have h5:=can_low HP.out.2.2.1 h0;have h6:=pw_pos (xn.length - 1);unfold Hid;omega
    cases bx with
    | false=>
     go_wp2
     go_ret
     exact ⟨g1,1,rfl,fun h=>absurd HP.out h,fun _=>(cmpI_gt (by have:=HV.out;simpa [sg] using this)).symm⟩
    | true=>
     go_wp2
     go_ret
     exact ⟨g1,-1,rfl,fun h=>absurd HP.out h,fun _=>(cmpI_lt (by have:=HV.out;simp [sg];omega)).symm⟩
  · have hb:((xn.length:Int)==0)=true:=by rw [beq_iff_eq];omega
    have HV:Hid (val xn=0):=(can_zero HP.out.2.2.1).1 (by omega);go_wp2
    go_ret
    exact ⟨g1,0,rfl,fun h=>absurd HP.out h,fun _=>(cmpI_eq (by rw [HV.out,sg_zero])).symm⟩
end
/-- Lowest terms are unique, however many limbs. -/
theorem lowest_can {b c:Bool} {ns ds ms es:List Int} {N D:Int} (cn:can ns) (cd:can ds) (hd:0<ds.length) (hg:gI (val ns) (val ds)=1) (h:sg b (val ns)*D=N*val ds) (hD:0<D) (cm:can ms) (ce:can es) (he:0<es.length) (kg:gI (val ms) (val es)=1) (k:sg c (val ms)*D=N*val es):ns=ms∧ds=es∧(0<val ns→b=c):=by
 have dp:0<val ds:=by have:=can_low cd hd;have:=pw_pos (ds.length - 1);omega
 have ep:0<val es:=by have:=can_low ce he;have:=pw_pos (es.length - 1);omega
 have np:=(val_bound cn.1).1;have mp:=(val_bound cm.1).1;have e1:sg b (val ns)*val es=sg c (val ms)*val ds:=by
  refine cancel hD ?_;have q1:sg b (val ns)*val es*D=sg b (val ns)*D*val es:=by ac_rfl
  have q2:sg c (val ms)*val ds*D=sg c (val ms)*D*val ds:=by ac_rfl
  rw [q1,q2,h,k]
  ac_rfl
 rw [← sg_mul,← sg_mul] at e1;have n1:0≤val ns*val es:=Int.mul_nonneg np (by omega);have n2:0≤val ms*val ds:=Int.mul_nonneg mp (by omega);have hab:val ns*val es=val ms*val ds∧(0<val ns*val es→b=c):=by
  unfold sg at e1;generalize val ns*val es=p at *;generalize val ms*val ds=q at *
  cases b <;> cases c <;> simp at e1
  · exact ⟨e1,fun _=>rfl⟩
  · exact ⟨by omega,fun _=>by omega⟩
  · exact ⟨by omega,fun _=>by omega⟩
  · exact ⟨by omega,fun _=>rfl⟩
 obtain ⟨n,en⟩:=Int.eq_ofNat_of_zero_le np;obtain ⟨d,ed⟩:=Int.eq_ofNat_of_zero_le (Int.le_of_lt dp);obtain ⟨m,em⟩:=Int.eq_ofNat_of_zero_le mp;obtain ⟨f,ef⟩:=Int.eq_ofNat_of_zero_le (Int.le_of_lt ep);have g1:Nat.gcd n d=1:=by
  rw [en,ed] at hg;unfold gI at hg;simp only [Int.toNat_natCast] at hg;omega
 have g2:Nat.gcd m f=1:=by
  rw [em,ef] at kg;unfold gI at kg;simp only [Int.toNat_natCast] at kg;omega
 have hm:=hab.1;rw [en,ed,em,ef] at hm;have hmn:n*f=m*d:=by exact_mod_cast hm
 have d1:d ∣ f:=(Nat.Coprime.dvd_of_dvd_mul_left (show Nat.Coprime d n by rw [Nat.coprime_comm];exact g1) ⟨m,by rw [hmn,Nat.mul_comm]⟩);have d2:f ∣ d:=(Nat.Coprime.dvd_of_dvd_mul_left (show Nat.Coprime f m by rw [Nat.coprime_comm];exact g2) ⟨n,by rw [← hmn,Nat.mul_comm]⟩);have hdf:d=f:=Nat.dvd_antisymm d1 d2;subst hdf;have hd0:0<d:=by omega
 have hnm:n=m:=Nat.eq_of_mul_eq_mul_right hd0 hmn;exact ⟨can_inj cn cm (by rw [en,em,hnm]),can_inj cd ce (by rw [ed,ef]),fun h0=>hab.2 (Int.mul_pos h0 ep)⟩
/-- What fits is not too great. -/
theorem not_big {b:Bool} {ns ds:List Int} {N D:Int} (hr:RightP b ns ds) (h:sg b (val ns)*D=N*val ds) (hD:0<D):¬ Big N D:=by
 rintro ⟨c,ms,es,cm,ce,he,kg,k,hl⟩;obtain ⟨rfl,rfl,_⟩:=lowest_can hr.2.2.1 hr.2.2.2.1 hr.2.2.2.2.2.1 hr.2.2.2.2.2.2 h hD cm ce he kg k;have:=hr.1;have:=hr.2.1;omega
theorem right_is {b c:Bool} {ns ds ms es:List Int} {N D:Int} (hr:RightP b ns ds) (h:sg b (val ns)*D=N*val ds) (hD:0<D) (kr:RightP c ms es) (k:sg c (val ms)*D=N*val es):c=b∧ms=ns∧es=ds:=by
 refine lowest kr hr (cancel hD ?_);have q1:sg c (val ms)*val ds*D=sg c (val ms)*D*val ds:=by ac_rfl
 have q2:sg b (val ns)*val es*D=sg b (val ns)*D*val es:=by ac_rfl
 rw [q1,q2,h,k]
 ac_rfl
/-- A known number is answered. -/
def IsNum' (w:World) (b:Bool) (ns ds:List Int) (e:Ending) (w':World):Prop:=
 Below w.heap.size w w'∧∃ a1 c1 a2 c2,e=.returned (.tuple #[.agg #[.bool b,.slice a1 ns.length c1,.slice a2 ds.length c2],.int .i64 0])∧Own w.heap.size w' (.slice a1 ns.length c1) ns∧Own w.heap.size w' (.slice a2 ds.length c2) ds
theorem gives_is {w w':World} {P:Prop} {N D:Int} {e:Ending} {b:Bool} {ns ds:List Int} (h:Gives w P N D e w') (hP:P) (hD:0<D) (hr:RightP b ns ds) (hv:sg b (val ns)*D=N*val ds):IsNum' w b ns ds e w':=by
 obtain ⟨hb,c,x1,n,y1,x2,m,y2,err,rfl,ho⟩:=h;refine ⟨hb,?_⟩;rcases ho.out with ⟨hn,_⟩ | ⟨_,_,_,_,_,_,_,_,_,hbig⟩ | ⟨_,rfl,ms,es,rfl,rfl,on,od,kr,kv⟩
 · exact absurd hP hn
 · exact absurd hbig (not_big hr hv hD)
 · obtain ⟨rfl,rfl,rfl⟩:=right_is hr hv hD kr kv
   exact ⟨x1,y1,x2,y2,rfl,on,od⟩
/-- What a reckoning answers: too great, or a right number. -/
theorem gives_or {w w':World} {P:Prop} {N D:Int} {e:Ending} (h:Gives w P N D e w') (hP:P):Below w.heap.size w w'∧((e=.returned (.tuple #[.agg #[.bool false,.slice none 0 0,.slice none 0 0],.int .i64 8])∧Big N D)∨∃ b ns ds a1 c1 a2 c2,e=.returned (.tuple #[.agg #[.bool b,.slice a1 ns.length c1,.slice a2 ds.length c2],.int .i64 0])∧Own w.heap.size w' (.slice a1 ns.length c1) ns∧Own w.heap.size w' (.slice a2 ds.length c2) ds∧RightP b ns ds∧sg b (val ns)*D=N*val ds):=by
 obtain ⟨hb,c,x1,n,y1,x2,m,y2,err,rfl,ho⟩:=h;refine ⟨hb,?_⟩;rcases ho.out with ⟨hn,_⟩ | ⟨_,rfl,rfl,rfl,rfl,rfl,rfl,rfl,rfl,hbig⟩ | ⟨_,rfl,ms,es,rfl,rfl,on,od,kr,kv⟩
 · exact absurd hP hn
 · exact Or.inl ⟨rfl,hbig⟩
 · exact Or.inr ⟨c,ms,es,x1,y1,x2,y2,rfl,on,od,kr,kv⟩
theorem nil_rd (w:World):Rd w.heap.size w (.slice none ([]:List Int).length 0) []:=Own.rd (base:=0) ⟨lim_nil,World.ownsRow_nil _ _ _ _⟩
section
variable {B:Nat} {w:World} {bx cy:Bool} {a1 a2 a3 a4:Option Addr} {c1 c2 c3 c4:Nat} {xn xd yn yd:List Int}
/-- rat.Div by what is not 0. -/
theorem div_nz (h1:Rd B w (.slice a1 xn.length c1) xn) (h2:Rd B w (.slice a2 xd.length c2) xd) (h3:Rd B w (.slice a3 yn.length c3) yn) (h4:Rd B w (.slice a4 yd.length c4) yd) (hB:B≤w.heap.size) (h0:0<yn.length) :
    Calls Tryz.prog 91 #[.agg #[.bool bx,.slice a1 xn.length c1,.slice a2 xd.length c2],.agg #[.bool cy,.slice a3 yn.length c3,.slice a4 yd.length c4]] w fun e w'=>Gives w (RightP bx xn xd∧RightP cy yn yd) (sg bx (val xn)*sg cy (val yd)) (val xd*val yn) e w':=by
 have I:=in2_new w (.bool bx) (.slice a1 xn.length c1) (.slice a2 xd.length c2) (.bool cy) (.slice a3 yn.length c3) (.slice a4 yd.length c4);go_enter Tryz.func91,Tryz.ntmps91
 go_wp2_with fail
 generalize hA:((((w.alloc (.cells #[.bool bx,.slice a1 xn.length c1,.slice a2 xd.length c2] 24)).alloc (.cells #[.bool cy,.slice a3 yn.length c3,.slice a4 yd.length c4] 24)).alloc (.cells #[.bool false,.slice none 0 0,.slice none 0 0] 24)).alloc (.cells #[.bool bx,.slice a1 xn.length c1,.slice a2 xd.length c2,.bool cy,.slice a3 yn.length c3,.slice a4 yd.length c4] 24))=wQ at *;clear hA;obtain ⟨hX,hY,hR,hT,b0,s0⟩:=I;refine (allRight2 hT (h1.below (b0.mono hB)) (h2.below (b0.mono hB)) (h3.below (b0.mono hB)) (h4.below (b0.mono hB)) (by omega)).mono ?_;rintro e wa ⟨⟨r,rfl,hr⟩,ba⟩;have sa:=ba.size;have bwa:Below w.heap.size w wa:=b0.trans (ba.mono (by omega));have hRa:=hR.below ba (by omega)
 cases r with
 | false=>
  have HP:Hid (¬ (RightP bx xn xd∧RightP cy yn yd)):=fun h=>by have:=hr.2 h;cases this
  clear hr;have q0:=hRa.c0;have q1:=hRa.c1;have q2:=hRa.c2;have p0:=hRa.f0;have p1:=hRa.f1;have p2:=hRa.f2;go_wp2
  have hR3:=hRa.set (.bool false) (.slice none 0 0) (.slice none 0 0);have r0:=hR3.c0;have r1:=hR3.c1;have r2:=hR3.c2;refine bodyPost_ret (v:=.tuple #[.agg #[.bool false,.slice none 0 0,.slice none 0 0],.int .i64 22]) (by simp [results,Tryz.results91,go_sem,r0,r1,r2]) rfl ?_;exact gives_err HP.out (Below.set3 bwa (by omega) _ _ _)
 | true=>
  have HP:Hid (RightP bx xn xd∧RightP cy yn yd):=hr.1 rfl;clear hr;have hXa:=hX.below ba (by omega);have hYa:=hY.below ba (by omega);have k0:=hXa.c0;have k1:=hXa.c1;have k2:=hXa.c2;have k3:=hYa.c0;have k4:=hYa.c1;have k5:=hYa.c2;have hpl:=by_rat (bx:=bx) (cy:=cy) (h1.below (bwa.mono hB)) (h2.below (bwa.mono hB)) (h3.below (bwa.mono hB)) (h4.below (bwa.mono hB)) (by omega) HP.out.1 HP.out.2 h0
  go_wp2_with fail
  clear k0 k1 k2 k3 k4 k5;refine hpl.mono ?_;intro e w6 hm6;obtain ⟨bm6,b6,x5,n5,y5,x6,n6,y6,err,rfl,hform⟩:=hm6.form;have hRc:=hRa.below bm6 (by omega);have q0:=hRc.c0;have q1:=hRc.c1;have q2:=hRc.c2;have p0:=hRc.f0;have p1:=hRc.f1;have p2:=hRc.f2;clear hpl hm6;go_wp2
  have hR3:=hRc.set (.bool b6) (.slice x5 n5 y5) (.slice x6 n6 y6);have r0:=hR3.c0;have r1:=hR3.c1;have r2:=hR3.c2;refine bodyPost_ret (v:=.tuple #[.agg #[.bool b6,.slice x5 n5 y5,.slice x6 n6 y6],.int .i64 err]) (by simp [results,Tryz.results91,go_sem,r0,r1,r2]) rfl ?_;exact (rform_done bwa (by omega) (by omega) bm6 hform).gives HP.out
end
theorem refTrim_nz (b off n cap:Nat) (xs:List Int) (w:World) (hn:Hid (xs.length=n+1)) (hl:lim xs) (hnc:n+1≤cap) (hbig:cap≤9223372036854775807) (hsz:(n+1)*4≤140737488355328)
    (hc:∀ j,j<n+1→w.cell? ⟨b,off+j,none⟩=some (.int .u32 (xs.getD j 0))) :
    Calls Tryz.prog 126 #[.slice (some ⟨b,off,none⟩) (n+1) cap] w fun e w'=>Makes w e w' (tr xs):=by
 obtain ⟨i0,hi,hz0,hz1,hz2⟩:=info_parts info_u32;go_enter Tryz.func126,Tryz.ntmps126;go_wp2
 go_loop [3] (fun s=>∃ k:Nat,k≤n+1∧s=.int .i64 k∧Hid (tl xs k=tl xs (n+1))) (fun s=>(intOf s).toNat)
 case atStart=>exact ⟨n+1,Nat.le_refl _,by go_num,rfl⟩
 case round=>
  obtain ⟨k,hk,rfl,ht⟩:=hrel;have fin:∀ k,k≤n+1→tl xs k=tl xs (n+1)→(k=0∨¬ xs.getD (k - 1) 0=0)→xs.take k=tr xs:=by
   intro k hk ht h;unfold tr;rw [hn.out,← ht];rcases h with h | h
   · subst h;rfl
   · cases k with
     | zero=>rfl
     | succ k=>rw [tl_pos xs k (by simpa using h)]
  by_cases hend:k=0∨¬ xs.getD (k - 1) 0=0
  · have htr:=fin k hk ht.out hend
    have HTR:Hid (xs.take k=tr xs):=htr;have hlen:(xs.take k).length=k:=by have:=hn.out;simp;omega
    have hnews:∀ j u,((xs.take k).map (Value.int .u32))[j]? = some u→w.cell? ((⟨b,off,none⟩:Addr).add j)=some u:=cells_news (fun j hj=>by
     rw [hlen] at hj;rw [hc j (by omega)];have:(xs.take k).getD j 0=xs.getD j 0:=by simp only [List.getD,List.getElem?_take];rw [if_pos (by omega)]
     rw [this])
    have hlu:lim (xs.take k):=lim_take hl k;clear fin htr;generalize hU:xs.take k=us at *;have HL:Hid (us.length=k):=hlen;have HC:Hid (k=0∨¬ xs.getD (k - 1) 0=0):=hend;clear hU hlen hend
    cases k with
    | zero=>
     clear hc;have hu0:us=[]:=List.eq_nil_of_length_eq_zero HL.out;subst hu0;go_wp2
     go_ret
     rw [← HTR.out];exact Makes.of rfl ⟨lim_nil,World.ownsRow_nil _ _ _ _⟩ (Below.refl _ _)
    | succ k=>
     have hck:=hc k (by omega);have hne:¬ xs.getD k 0=0:=by
      rcases HC.out with h | h
      · omega
      · simpa using h
     have hneb:(xs.getD k 0==0)=false:=by simpa using hne
     generalize hg:xs.getD k 0=g at *;clear hg hc hne
     go_wp2_with (at_builtin;refine wpList_append_own _ rfl _ _ 22 rfl w.heap.size 100 i0 (.int .u32 0) 1 4 Tryz.underlying22 hi hz0 hz1 hz2 rfl (by decide) _ _ _ rfl (World.ownsRow_nil _ _ _ _) ⟨b,off,none⟩ (k+1) cap (us.map (Value.int .u32)) rfl (by rw [List.length_map,HL.out];omega) hnews (ints_oneCell _ _) ?c3 ?c4 (Nat.le_refl _) ?_)
     case c3=>unfold maxLen;omega
     case c4=>omega
     intro v' w1 hown hgrow _;go_wp2
     go_ret
     rw [← HTR.out];exact Makes.of rfl ⟨hlu,by rw [HL.out];exact hown⟩ ((Below.refl _ _).grown hgrow (Nat.le_refl _) (fun k h=>by cases h))
  · obtain ⟨k,rfl⟩:∃ j,k=j+1:=⟨k - 1,by omega⟩
    have h0:xs.getD k 0=0:=by
     by_cases h:xs.getD k 0=0
     · exact h
     · exact absurd (Or.inr (by simpa using h)) hend
    have hck:=hc k (by omega);rw [h0] at hck;have HT0:Hid (tl xs (k+1)=tl xs k):=tl_zero xs k h0;clear hc fin hend h0;go_wp2
    go_round
    case rel=>exact ⟨k,by omega,by go_num,by unfold Hid;rw [← ht.out,HT0.out]⟩
    case measure=>simp [intOf]
theorem refTrim_z (a:Option Addr) (cap:Nat) (w:World) (hcap:a=none→cap=0) :
    Calls Tryz.prog 126 #[.slice a 0 cap] w fun e w'=>Makes w e w' []:=by
 obtain ⟨i0,hi,hz0,hz1,hz2⟩:=info_parts info_u32
 cases a with
 | none=>
  have:=hcap rfl;subst this;go_enter Tryz.func126,Tryz.ntmps126;go_wp2
  refine wp_loop_rounds 1 ?_;rw [rounds_succ];go_wp2
  go_ret
  exact Makes.of rfl ⟨lim_nil,World.ownsRow_nil _ _ _ _⟩ (Below.refl _ _)
 | some ad=>
  go_enter Tryz.func126,Tryz.ntmps126;go_wp2
  refine wp_loop_rounds 1 ?_;rw [rounds_succ]
  go_wp2_with (at_builtin;refine wpList_append_own _ rfl _ _ 22 rfl w.heap.size 100 i0 (.int .u32 0) 1 4 Tryz.underlying22 hi hz0 hz1 hz2 rfl (by decide) _ _ _ rfl (World.ownsRow_nil _ _ _ _) ad 0 cap [] rfl rfl (by intro j u h;simp at h) (by intro u h;cases h) ?c1 ?c2 (Nat.le_refl _) ?_)
  case c1=>unfold maxLen;omega
  case c2=>omega
  intro v' w1 hown hgrow _;go_wp2
  go_ret
  exact Makes.of rfl ⟨lim_nil,hown⟩ ((Below.refl _ _).grown hgrow (Nat.le_refl _) (fun k h=>by cases h))
/-- The document's Trim, at whatever slice of limbs. -/
theorem refTrim_rd {B:Nat} {w:World} {v:Value} {xs:List Int} (h:Rd B w v xs) (hsz:xs.length*4≤140737488355328) :
    Calls Tryz.prog 126 #[v] w fun e w'=>Makes w e w' (tr xs):=by
 obtain ⟨hl,a,cap,rfl,h1,h2,hn,h3⟩:=h;by_cases h0:xs.length=0
 · have e:xs=[]:=List.eq_nil_of_length_eq_zero h0
   subst e;exact refTrim_z a cap w hn
 · obtain ⟨n,hn1⟩:∃ n,xs.length=n+1:=⟨xs.length - 1,by omega⟩
   rcases h3 with h3 | ⟨b,off,rfl,_,hc⟩
   · exact absurd h3 h0
   · rw [hn1] at hc h1 ⊢
     exact refTrim_nz b off n cap xs w hn1 hl h1 h2 (by omega) hc
theorem refOf_any (n:Int) (h0:0≤n) (h1:n<18446744073709551616) (w:World) :
    Calls Tryz.prog 63 #[.int .u64 n] w fun e w'=>Makes w e w' (tr [n % 4294967296,n/4294967296]):=by
 go_enter Tryz.func63,Tryz.ntmps63
 go_wp2_with fail
 refine (refTrim_rd (rd_two w (n % 4294967296) (n/4294967296) (by omega) (by omega)) (by simp)).mono ?_;intro e w' hm;obtain ⟨a,c,rfl,ho,hb⟩:=hm.alloc;go_wp2
 go_ret
 exact ⟨a,c,rfl,ho,hb⟩
/-- The document's Compare. -/
theorem refCompare_rd {B B':Nat} {w:World} {v1 v2:Value} {xs ys:List Int} (h1:Rd B w v1 xs) (h2:Rd B' w v2 ys) (b2:B'≤w.heap.size) (s1:xs.length*4≤140737488355328) (s2:ys.length*4≤140737488355328) :
    Calls Tryz.prog 59 #[v1,v2] w fun e w'=>e=.returned (.int .i64 (cmpI (val xs) (val ys)))∧Below w.heap.size w w':=by
 rw [← val_tr xs,← val_tr ys];have c1:=tr_can h1.lim;have c2:=tr_can h2.lim;have n1:=tr_length_le xs;have n2:=tr_length_le ys;go_enter Tryz.func59,Tryz.ntmps59
 go_wp2_with fail
 refine (refTrim_rd h1 s1).mono ?_;rintro e wa ⟨a1,q1,rfl,o1,ba⟩;have hsa:=ba.size
 go_wp2_with fail
 refine (refTrim_rd (h2.below (ba.mono b2)) s2).mono ?_;rintro e wb ⟨a2,q2,rfl,o2,bb⟩;have bb':=ba.trans (bb.mono hsa);have o1':=o1.below bb (Nat.le_refl _);generalize hUS:tr xs=us at *;generalize hVS:tr ys=vs at *;have HU:Hid (cmpI (val (tr xs)) (val (tr ys))=cmpI (val us) (val vs)):=by unfold Hid;rw [hUS,hVS]
 clear o1 ba bb h1 h2 hUS hVS;by_cases hl:us.length=vs.length
 · by_cases h0:us.length=0
   · have k1:us=[]:=List.eq_nil_of_length_eq_zero h0
     have k2:vs=[]:=List.eq_nil_of_length_eq_zero (by omega);subst k1 k2;go_wp2
     refine wp_loop_rounds 1 ?_;rw [rounds_succ];go_wp2
     go_ret
     exact ⟨ret_int (by rw [HU.out];exact (cmpI_eq rfl).symm),bb'⟩
   · obtain ⟨l,hl1⟩:∃ l,us.length=l+1:=⟨us.length - 1,by omega⟩
     have hl2:vs.length=l+1:=by omega
     obtain ⟨lx,_,_,e1,_,_,_,r1⟩:=o1'.rd;obtain ⟨ly,_,_,e2,_,_,_,r2⟩:=o2.rd;rcases r1 with r1 | ⟨g1,f1,ea1,_,k1⟩
     · omega
     rcases r2 with r2 | ⟨g2,f2,ea2,_,k2⟩
     · omega
     subst ea1 ea2
     cases e1
     cases e2
     rw [hl1] at k1;rw [hl2] at k2;have K1:Hid (∀ j,j<l+1→wb.cell? ⟨g1,f1+j,none⟩=some (.int .u32 (us.getD j 0))):=k1;have K2:Hid (∀ j,j<l+1→wb.cell? ⟨g2,f2+j,none⟩=some (.int .u32 (vs.getD j 0))):=k2;have HX:Hid (us.length=l+1):=hl1;have HY:Hid (vs.length=l+1):=hl2;have hlb:l+1≤9223372036854775807:=by omega
     rw [hl1,hl2];clear k1 k2 hl1 hl2 hl h0 o1' o2;go_wp2
     go_loopw [7] (fun s wr=>(∃ n,wr=wb.drewN n)∧((∃ j:Nat,j<l+1∧s=.int .i64 j∧Hid (us.drop (j+1)=vs.drop (j+1)))∨(s=.int .i64 (-1)∧Hid (us=vs)))) (fun s _=>(intOf s+1).toNat)
     case atStart=>exact ⟨⟨0,rfl⟩,Or.inl ⟨l,by omega,by go_num,by unfold Hid;rw [List.drop_of_length_le (by rw [HX.out];omega),List.drop_of_length_le (by rw [HY.out];omega)]⟩⟩
     case round=>
      obtain ⟨⟨n,rfl⟩,⟨j,hj,rfl,hd⟩ | ⟨rfl,he⟩⟩:=hrel
      · have g1:=K1.out j hj
        have g2:=K2.out j hj;have r1:=lim_getD lx j;have r2:=lim_getD ly j;generalize hp:us.getD j 0=p at *;generalize hq:vs.getD j 0=q at *;have HP:Hid (us.getD j 0=p):=hp;have HQ:Hid (vs.getD j 0=q):=hq;clear hp hq;by_cases hpq:p=q
        · subst hpq
          cases j with
          | zero=>
           rw [Nat.add_zero] at g1 g2;go_wp2
           go_quiet (fail)
           go_wp2
           go_quiet (fail)
           go_wp2
           go_roundw
           case rel=>exact ⟨⟨_,rfl⟩,Or.inr ⟨rfl,by
            unfold Hid;have h0:=drop_eq_step us vs 0 (by rw [HX.out];omega) (by rw [HY.out];omega) hd.out (by rw [HP.out,HQ.out]);simpa using h0⟩⟩
           case measure=>simp [intOf]
          | succ j=>
           go_wp2
           go_quiet (fail)
           go_wp2
           go_quiet (fail)
           go_wp2
           go_roundw
           case rel=>exact ⟨⟨_,rfl⟩,Or.inl ⟨j,by omega,by go_num,by
            unfold Hid;exact drop_eq_step us vs (j+1) (by rw [HX.out];omega) (by rw [HY.out];omega) hd.out (by rw [HP.out,HQ.out])⟩⟩
           case measure=>simp [intOf];omega
        · by_cases hlt:p<q
          · have hc:cmpI (val us) (val vs) = -1:=cmpI_lt (val_lt_top lx ly (by rw [HX.out,HY.out]) j (by rw [HX.out];omega) hd.out (by rw [HP.out,HQ.out];exact hlt))
            have HC:Hid (cmpI (val us) (val vs) = -1):=hc;clear hpq hc;go_wp2
            go_quiet (fail)
            go_wp2
            go_ret
            exact ⟨ret_int (by rw [HU.out];exact HC.out.symm),below_drewN' (below_drewN' bb' _) _⟩
          · have hc:cmpI (val us) (val vs)=1:=cmpI_gt (val_lt_top ly lx (by rw [HX.out,HY.out]) j (by rw [HY.out];omega) hd.out.symm (by rw [HP.out,HQ.out];omega))
            have HC:Hid (cmpI (val us) (val vs)=1):=hc;have hgt:q<p:=by omega
            clear hpq hc;go_wp2
            go_quiet (fail)
            go_wp2
            go_quiet (fail)
            go_wp2
            go_ret
            exact ⟨ret_int (by rw [HU.out];exact HC.out.symm),below_drewN' (below_drewN' (below_drewN' bb' _) _) _⟩
      · go_wp2
        go_ret
        exact ⟨ret_int (by rw [HU.out];exact (cmpI_eq (by rw [he.out])).symm),below_drewN' bb' _⟩
 · have t0:(((us.length:Nat):Int) != ((vs.length:Nat):Int))=true:=by rw [bne_iff_ne];omega
   by_cases h:us.length<vs.length
   · have hc:=can_len_lt c1 c2 h
     have HC:Hid (cmpI (val us) (val vs) = -1):=cmpI_lt hc;clear hc;go_wp2
     go_ret
     exact ⟨ret_int (by rw [HU.out];exact HC.out.symm),bb'⟩
   · have hc:=can_len_lt c2 c1 (by omega)
     have HC:Hid (cmpI (val us) (val vs)=1):=cmpI_gt hc;clear hc;go_wp2
     go_ret
     exact ⟨ret_int (by rw [HU.out];exact HC.out.symm),bb'⟩
theorem rightB_last (xs:List Int) (n:Nat) (hn:xs.length=n+1):rightB xs = !(xs.getD n 0==0):=by
 unfold rightB;rw [tr_length,hn];by_cases h:xs.getD n 0=0
 · rw [tl_zero xs n h,h]
   have h1:=tl_le xs n;have h2:¬ tl xs n=n+1:=by omega
   simp [h2]
 · have h1:(xs.getD n 0==0)=false:=by simpa using h
   rw [tl_pos xs n h,h1];simp
theorem refRight_any {B:Nat} {w:World} {v:Value} {xs:List Int} (h:Rd B w v xs) :
    Calls Tryz.prog 58 #[v] w fun e w'=>e=.returned (.bool (rightB xs))∧w=w':=by
 obtain ⟨_,a,c,rfl,hc,hb,_,r⟩:=h;by_cases h0:xs.length=0
 · have e:xs=[]:=List.eq_nil_of_length_eq_zero h0
   subst e;go_enter Tryz.func58,Tryz.ntmps58;go_wp2
   go_ret
   exact ⟨rfl,rfl⟩
 · obtain ⟨n,hn⟩:∃ n,xs.length=n+1:=⟨xs.length - 1,by omega⟩
   rcases r with r | ⟨b,o,rfl,_,k⟩
   · exact absurd r h0
   have hk:=k n (by omega);rw [rightB_last xs n hn];rw [hn] at hc ⊢;generalize xs.getD n 0=t at *;have t0:(((n:Nat):Int)+1==0)=false:=by simp;omega
   clear k hn h0;by_cases ht:t=0
   · subst ht
     go_enter Tryz.func58,Tryz.ntmps58;go_wp2
     go_ret
     exact ⟨rfl,rfl⟩
   · have htb:(t != 0)=true:=by rw [bne_iff_ne];exact ht
     have htc:(t==0)=false:=by simpa using ht
     go_enter Tryz.func58,Tryz.ntmps58;go_wp2
     go_ret
     exact ⟨ret_bool (by rw [htc];rfl),rfl⟩
theorem refBits_any {B:Nat} {w:World} {v:Value} {xs:List Int} (h:Rd B w v xs) (hn:xs.length≤17592186044415) :
    Calls Tryz.prog 129 #[v] w fun e w'=>∃ b:Nat,e=.returned (.int .i64 b)∧isBits (val xs) b∧Below w.heap.size w w':=by
 have ct:=tr_can h.lim;have hle:=tr_length_le xs;have hv:=val_tr xs;go_enter Tryz.func129,Tryz.ntmps129
 go_wp2_with fail
 refine (refTrim_rd h (by omega)).mono ?_;rintro e wa ⟨a1,q1,rfl,o1,ba⟩;generalize tr xs=us at *;by_cases h0:us.length=0
 · have hz:=(can_zero ct).1 h0
   have e:us=[]:=List.eq_nil_of_length_eq_zero h0;subst e;have HZ:Hid (val xs=0):=by unfold Hid;rw [← hv];rfl
   clear hz hv;go_wp2
   go_ret
   exact ⟨0,rfl,Or.inl ⟨HZ.out,rfl⟩,ba⟩
 · obtain ⟨k,hk⟩:∃ k,us.length=k+1:=⟨us.length - 1,by omega⟩
   obtain ⟨lx,_,_,e1,_,_,_,r1⟩:=o1.rd;rcases r1 with r1 | ⟨g1,f1,ea1,_,k1⟩
   · exact absurd r1 h0
   subst ea1
   cases e1
   have hck:=k1 k (by omega);have rt:=lim_getD lx k;have hne:¬ us.getD k 0=0:=by
    rcases ct.2 with h | h
    · omega
    · rw [hk] at h;simpa using h
   have htop:=fun t=>isBits_top us k t lx hk hne;have HT:Hid (∀ t,isBits (us.getD k 0) t→isBits (val us) (32*k+t)∧t≤32):=htop;have HV:Hid (val us=val xs):=hv;have hkl:k≤17592186044415:=by omega
   rw [hk];generalize us.getD k 0=T at *;clear htop hv k1 o1 hk h0 hne;have kb:(((k:Nat):Int)+1==0)=false:=by simp;omega
   go_wp2
   go_loopg [4,5] 33 (fun gk s t wr=>∃ (c:Nat) (u:Int),Hid (gk+c=33)∧c≤32∧s=.int .i64 ((32*k+c:Nat):Int)∧t=.int .u32 u∧0≤u∧u<4294967296∧Hid (u*p2 c≤T∧T<(u+1)*p2 c∧(c=0∨p2 (c - 1)≤T))∧wr=wa)
   case atStart=>exact ⟨0,T,rfl,by omega,by go_num,rfl,rt.1,rt.2,by unfold Hid;simp [p2];omega,rfl⟩
   case round=>
    obtain ⟨c,u,hgc,hc32,rfl,rfl,hu0,hu1,hin,rfl⟩:=hrel;by_cases hu:u=0
    · subst hu
      have hb:isBits T c:=by
       have h1:=hin.out;simp only [Int.zero_mul,Int.zero_add,Int.one_mul] at h1;rcases h1.2.2 with hc | hc
       · subst hc
         exact Or.inl ⟨by simp [p2] at h1;omega,rfl⟩
       · by_cases hc0:c=0
         · subst hc0;exact Or.inl ⟨by simp [p2] at h1;omega,rfl⟩
         · exact Or.inr ⟨by omega,hc,h1.2.1⟩
      have HB:Hid (isBits (val xs) (32*k+c)):=by unfold Hid;rw [← HV.out];exact (HT.out c hb).1
      clear hb;go_wp2
      go_ret
      exact ⟨32*k+c,rfl,HB.out,ba⟩
    · have hpos:0<u:=by omega
      have hcl:c<32:=by
       by_cases h:c<32
       · exact h
       · have hc:c=32:=by omega
         have h1:=hin.out.1;rw [hc,show p2 32=4294967296 from rfl] at h1;have:1*4294967296≤u*4294967296:=Int.mul_le_mul_of_nonneg_right (by omega) (by omega);omega
      go_wp2
      go_roundg (33 - (c+1))
      case measure=>have:=hgc.out;omega
      case rel=>exact ⟨c+1,u/2,by unfold Hid;omega,by omega,by go_num,by go_num,by omega,by omega,(by
       unfold Hid;have h1:=hin.out;have hp:=p2_pos c;rw [p2_succ];have hd:2*(u/2)+u % 2=u:=Int.mul_ediv_add_emod u 2;have hm0:=Int.emod_nonneg u (show (2:Int)≠0 by omega);have hm1:=Int.emod_lt_of_pos u (show (0:Int)<2 by omega);generalize u/2=q at *;generalize u % 2=r at *;subst hd;refine ⟨?_,?_,Or.inr ?_⟩
       · have e1:q*(2*p2 c)=(2*q)*p2 c:=by simp only [Int.mul_assoc,Int.mul_comm,Int.mul_left_comm]
         have e2:(2*q)*p2 c≤(2*q+r)*p2 c:=Int.mul_le_mul_of_nonneg_right (by omega) (Int.le_of_lt hp);omega
       · have e1:(q+1)*(2*p2 c)=(2*q+2)*p2 c:=by rw [Int.add_mul,Int.add_mul];simp only [Int.mul_assoc,Int.mul_comm,Int.mul_left_comm];omega
         have e2:(2*q+r+1)*p2 c≤(2*q+2)*p2 c:=Int.mul_le_mul_of_nonneg_right (by omega) (Int.le_of_lt hp);omega
       · have e2:1*p2 c≤(2*q+r)*p2 c:=Int.mul_le_mul_of_nonneg_right (by omega) (Int.le_of_lt hp)
         show p2 c≤T;omega),rfl⟩
theorem or_zero_left (x:Int) (h:0≤x∧x<18446744073709551616):bits .or .u64 0 x=x:=by
 obtain ⟨a,rfl⟩:=Int.eq_ofNat_of_zero_le h.1;have:=bits_or_u64_nat 0 a (by omega) (by omega);rw [Nat.zero_or] at this;exact this
theorem or_add_right (q v:Int) (hq:0≤q∧q<4294967296) (hv:0≤v∧v<4294967296):bits .or .u64 v (q*4294967296)=v+q*4294967296:=by
 obtain ⟨a,rfl⟩:=Int.eq_ofNat_of_zero_le hq.1;obtain ⟨b,rfl⟩:=Int.eq_ofNat_of_zero_le hv.1;have e:((a:Int)*4294967296)=((a*4294967296:Nat):Int):=by omega
 rw [e,bits_or_u64_nat _ _ (by omega) (by omega)];have h:b ||| a*4294967296=a*4294967296+b:=by
  have:=Nat.two_pow_add_eq_or_of_lt (i:=32) (b:=b) (by omega) a;rw [Nat.mul_comm,Nat.or_comm];exact this.symm
 rw [h];omega
theorem word_two (b o c:Nat) (x y:Int) (w:World) (hx:0≤x∧x<4294967296) (hy:0≤y∧y<4294967296) (k1:w.cell? ⟨b,o,none⟩=some (.int .u32 x)) (k2:w.cell? ⟨b,o+1,none⟩=some (.int .u32 y)) :
    Calls Tryz.prog 161 #[.slice (some ⟨b,o,none⟩) 2 c] w fun e w'=>e=.returned (.int .u64 (x+y*4294967296))∧w=w':=by
 have e1:=or_zero_left x (by omega);have e2:=or_add_right y x hy hx;go_enter Tryz.func161,Tryz.ntmps161;go_wp2
 refine wp_loop_rounds 3 ?_;rw [rounds_succ];go_wp2
 rw [rounds_succ];go_wp2
 rw [rounds_succ];go_wp2
 go_ret
 exact ⟨rfl,rfl⟩
theorem word_one (b o c:Nat) (x:Int) (w:World) (hx:0≤x∧x<4294967296) (k1:w.cell? ⟨b,o,none⟩=some (.int .u32 x)) :
    Calls Tryz.prog 161 #[.slice (some ⟨b,o,none⟩) 1 c] w fun e w'=>e=.returned (.int .u64 x)∧w=w':=by
 have e1:=or_zero_left x (by omega);go_enter Tryz.func161,Tryz.ntmps161;go_wp2
 refine wp_loop_rounds 2 ?_;rw [rounds_succ];go_wp2
 rw [rounds_succ];go_wp2
 go_ret
 exact ⟨rfl,rfl⟩
theorem word_zero (a:Option Addr) (c:Nat) (w:World) :
    Calls Tryz.prog 161 #[.slice a 0 c] w fun e w'=>e=.returned (.int .u64 0)∧w=w':=by
 go_enter Tryz.func161,Tryz.ntmps161;go_wp2
 refine wp_loop_rounds 1 ?_;rw [rounds_succ];go_wp2
 go_ret
 exact ⟨rfl,rfl⟩
/-- nat.word of at most two limbs: the number. -/
theorem word_rd {B:Nat} {w:World} {v:Value} {xs:List Int} (h:Rd B w v xs) (h2:xs.length≤2) :
    Calls Tryz.prog 161 #[v] w fun e w'=>e=.returned (.int .u64 (val xs))∧w=w':=by
 obtain ⟨hl,a,c,rfl,_,_,_,r⟩:=h
 match xs,h2 with
 | [],_=>exact word_zero a c w
 | [x],_=>
  rcases r with r | ⟨b,o,rfl,_,k⟩
  · simp at r
  · have e:val [x]=x:=by simp [val]
    rw [e];exact word_one b o c x w (hl x (by simp)) (k 0 (by simp))
 | [x,y],_=>
  rcases r with r | ⟨b,o,rfl,_,k⟩
  · simp at r
  · have e:val [x,y]=x+y*4294967296:=by simp [val];rw [Int.mul_comm]
    rw [e];exact word_two b o c x y w (hl x (by simp)) (hl y (by simp)) (k 0 (by simp)) (k 1 (by simp))
/-- A number as an int, if it is below 2^63. -/
def smallV (n:Int):Value:=.tuple #[.int .i64 (if n<9223372036854775808 then n else 0),.bool (decide (n<9223372036854775808))]
theorem smallV_lt {n:Int} (h:n<9223372036854775808):smallV n=.tuple #[.int .i64 n,.bool true]:=by unfold smallV;rw [if_pos h,decide_eq_true h]
theorem smallV_ge {n:Int} (h:9223372036854775808≤n):smallV n=.tuple #[.int .i64 0,.bool false]:=by unfold smallV;rw [if_neg (by omega),decide_eq_false (by omega)]
theorem list_two {us:List Int} (h:us.length≤2):us=[]∨(∃ x,us=[x])∨∃ x y,us=[x,y]:=by
 match us,h with
 | [],_=>exact Or.inl rfl
 | [x],_=>exact Or.inr (Or.inl ⟨x,rfl⟩)
 | [x,y],_=>exact Or.inr (Or.inr ⟨x,y,rfl⟩)
theorem isBits_63 {n:Int} {b:Nat} (h:isBits n b) (h0:0≤n):b≤63↔n<9223372036854775808:=by
 have e:p2 63=9223372036854775808:=by decide
 rcases h with ⟨rfl,rfl⟩ | ⟨h1,h2,h3⟩
 · exact ⟨fun _=>by omega,fun _=>by omega⟩
 · constructor
   · intro hb
     have:=p2_mono (j:=b) (k:=63) hb;omega
   · intro hn
     by_cases hb:b≤63
     · exact hb
     · have:=p2_mono (j:=63) (k:=b - 1) (by omega)
       omega
theorem can_two {us:List Int} (h:can us) (hv:val us<18446744073709551616):us.length≤2:=by
 by_cases hl:us.length≤2
 · exact hl
 · have h1:=can_low h (by omega)
   have h2:=pw_mono (j:=2) (k:=us.length - 1) (by omega);have e:pw 2=18446744073709551616:=by decide
   omega
/-- nat.Small. -/
theorem small_any {B:Nat} {w:World} {v:Value} {xs:List Int} (h:Rd B w v xs) (hn:xs.length≤17592186044415) :
    Calls Tryz.prog 177 #[v] w fun e w'=>e=.returned (smallV (val xs))∧w=w':=by
 have h0:=(val_bound h.lim).1;have m:=meant_rd h;have t:=h.meant;have ct:=tr_can h.lim;rw [← tr_length] at m t;have hv:=val_tr xs;go_enter Tryz.func177,Tryz.ntmps177
 go_wp2_with fail
 refine (bits_any h hn).mono ?_;rintro e w' ⟨b,rfl,hb,hbl,rfl⟩;have h63:=isBits_63 hb h0;clear hb;generalize hV:val xs=V at *;by_cases hlt:V<9223372036854775808
 · have hb63:b≤63:=h63.2 hlt
   have hl2:(tr xs).length≤2:=can_two ct (by omega);have hw:=word_rd t hl2;rw [hv] at hw;have HV:Hid (val xs=V):=hV;clear h63 hv hV
   go_wp2_with fail
   refine m.mono ?_;rintro e w' ⟨rfl,rfl⟩
   go_wp2_with fail
   refine hw.mono ?_;rintro e w' ⟨rfl,rfl⟩;go_wp2
   go_ret2
   refine ⟨?_,rfl⟩;rw [HV.out,smallV_lt hlt];rfl
 · have hb63:¬ b≤63:=fun hb=>hlt (h63.1 hb)
   have hb63':63<b:=by omega
   have HV:Hid (val xs=V):=hV;clear h63 hv hV;go_wp2
   go_ret2
   refine ⟨?_,rfl⟩;rw [HV.out,smallV_ge (by omega)];rfl
theorem bits_or_i64_nat (a b:Nat) (ha:a<9223372036854775808) (hb:b<9223372036854775808):bits .or .i64 (a:Int) (b:Int)=((a ||| b:Nat):Int):=by
 have hx:a ||| b<2 ^ 63:=Nat.or_lt_two_pow (by omega) (by omega)
 have h1:(BitVec.ofInt 64 (a:Int)).toNat=a:=by
  rw [BitVec.ofInt_natCast,BitVec.toNat_ofNat];exact Nat.mod_eq_of_lt (by omega)
 have h2:(BitVec.ofInt 64 (b:Int)).toNat=b:=by
  rw [BitVec.ofInt_natCast,BitVec.toNat_ofNat];exact Nat.mod_eq_of_lt (by omega)
 show IntKind.i64.wrap ((BitVec.ofInt 64 (a:Int) ||| BitVec.ofInt 64 (b:Int)).toNat:Int)=_
 rw [BitVec.toNat_or,h1,h2,IntKind.wrap_i64];omega
theorem or_zero_i64 (x:Int) (h:0≤x∧x<9223372036854775808):bits .or .i64 0 x=x:=by
 obtain ⟨a,rfl⟩:=Int.eq_ofNat_of_zero_le h.1;have:=bits_or_i64_nat 0 a (by omega) (by omega);rw [Nat.zero_or] at this;exact this
theorem or_add_i64 (q v:Int) (hq:0≤q∧q<2147483648) (hv:0≤v∧v<4294967296):bits .or .i64 (q*4294967296) v=q*4294967296+v:=by
 obtain ⟨a,rfl⟩:=Int.eq_ofNat_of_zero_le hq.1;obtain ⟨b,rfl⟩:=Int.eq_ofNat_of_zero_le hv.1;have e:((a:Int)*4294967296)=((a*4294967296:Nat):Int):=by omega
 rw [e,bits_or_i64_nat _ _ (by omega) (by omega)];have h:a*4294967296 ||| b=a*4294967296+b:=by
  have:=Nat.two_pow_add_eq_or_of_lt (i:=32) (b:=b) (by omega) a;rw [Nat.mul_comm];exact this.symm
 rw [h];omega
/-- The document's Small. -/
theorem refSmall_any {B:Nat} {w:World} {v:Value} {xs:List Int} (h:Rd B w v xs) (hn:xs.length≤17592186044415) :
    Calls Tryz.prog 70 #[v] w fun e w'=>e=.returned (smallV (val xs))∧Below w.heap.size w w':=by
 have hle:=tr_length_le xs;have ct:=tr_can h.lim;have hv:=val_tr xs;go_enter Tryz.func70,Tryz.ntmps70
 go_wp2_with fail
 refine (refTrim_rd h (by omega)).mono ?_;rintro e wa ⟨a1,q1,rfl,o1,ba⟩;obtain ⟨lx,_,_,e1,_,_,_,r1⟩:=o1.rd;generalize tr xs=us at *;have HV:Hid (val xs=val us):=hv.symm;clear hv;by_cases h3:2<us.length
 · have hbig:9223372036854775808≤val us:=by
    have h1:=can_low ct (by omega);have h2:=pw_mono (j:=2) (k:=us.length - 1) (by omega);have e:pw 2=18446744073709551616:=by decide
    omega
   have HB:Hid (9223372036854775808≤val us):=hbig;clear hbig;go_wp2
   go_ret2
   refine ⟨?_,ba⟩;rw [HV.out,smallV_ge HB.out];rfl
 · rcases list_two (Nat.le_of_not_lt h3) with rfl | ⟨x,rfl⟩ | ⟨x,y,rfl⟩
   · go_wp2
     refine wp_loop_rounds 1 ?_;rw [rounds_succ];go_wp2
     go_ret2
     refine ⟨?_,ba⟩;rw [HV.out];rfl
   · rcases r1 with r1 | ⟨g1,f1,ea1,_,k1⟩
     · simp at r1
     subst ea1
     cases e1
     have hx:=lx x (by simp);have kx:wa.cell? ⟨g1,f1,none⟩=some (.int .u32 x):=k1 0 (by simp);have ex:=or_zero_i64 x (by omega);have HVx:Hid (val [x]=x):=by unfold Hid;simp [val]
     clear k1 o1;go_wp2
     refine wp_loop_rounds 2 ?_;rw [rounds_succ];go_wp2
     rw [rounds_succ];go_wp2
     go_ret2
     refine ⟨?_,ba⟩;rw [HV.out,HVx.out,smallV_lt (by omega)];rfl
   · rcases r1 with r1 | ⟨g1,f1,ea1,_,k1⟩
     · simp at r1
     subst ea1
     cases e1
     have hx:=lx x (by simp);have hy:=lx y (by simp);have kx:wa.cell? ⟨g1,f1,none⟩=some (.int .u32 x):=k1 0 (by simp);have ky:wa.cell? ⟨g1,f1+1,none⟩=some (.int .u32 y):=k1 1 (by simp);have HVx:Hid (val [x,y]=x+y*4294967296):=by unfold Hid;simp [val];rw [Int.mul_comm]
     clear k1 o1;by_cases hyb:y<2147483648
     · have ey:=or_zero_i64 y (by omega)
       have ex:=or_add_i64 y x (by omega) hx;go_wp2
       refine wp_loop_rounds 3 ?_;rw [rounds_succ];go_wp2
       rw [rounds_succ];go_wp2
       rw [rounds_succ];go_wp2
       go_ret2
       refine ⟨?_,ba⟩;rw [HV.out,HVx.out,smallV_lt (by omega),Int.add_comm];rfl
     · have hyc:2147483648≤y:=by omega
       go_wp2
       go_ret2
       refine ⟨?_,ba⟩;rw [HV.out,HVx.out,smallV_ge (by omega)];rfl
theorem cell1_new (w:World) (x:Value) (t:TypeId):∀ j u,[x][j]? = some u→(w.alloc (.cells #[x] t)).cell? ((⟨w.heap.size,0,none⟩:Addr).add j)=some u:=by
 intro j u hj
 match j,hj with
 | 0,hj=>simp at hj;subst hj;simp [Addr.add]
theorem limb_in (b o n c i:Nat) (x:Int) (w:World) (hx:0≤x∧x<4294967296) (h:i<n) (hb:n≤9223372036854775807) (k:w.cell? ⟨b,o+i,none⟩=some (.int .u32 x)) :
    Calls Tryz.prog 128 #[.slice (some ⟨b,o,none⟩) n c,.int .i64 i] w fun e w'=>e=.returned (.int .u64 x)∧w=w':=by
 go_enter Tryz.func128,Tryz.ntmps128;go_wp2
 go_ret
 exact ⟨rfl,rfl⟩
theorem limb_out (a:Option Addr) (n c i:Nat) (w:World) (h:¬ i<n) :
    Calls Tryz.prog 128 #[.slice a n c,.int .i64 i] w fun e w'=>e=.returned (.int .u64 0)∧w=w':=by
 go_enter Tryz.func128,Tryz.ntmps128;go_wp2
 go_ret
 exact ⟨rfl,rfl⟩
/-- The document's limb: one of a number; 0 behind it. -/
theorem limb_rd {B:Nat} {w:World} {v:Value} {xs:List Int} (h:Rd B w v xs) (i:Nat) :
    Calls Tryz.prog 128 #[v,.int .i64 i] w fun e w'=>e=.returned (.int .u64 (xs.getD i 0))∧w=w':=by
 obtain ⟨hl,a,c,rfl,h1,h2,_,r⟩:=h;by_cases hi:i<xs.length
 · rcases r with r | ⟨b,o,rfl,_,k⟩
   · omega
   · exact limb_in b o xs.length c i (xs.getD i 0) w (lim_getD hl i) hi (by omega) (k i hi)
 · have e:xs.getD i 0=0:=by simp [List.getD,List.getElem?_eq_none (Nat.le_of_not_lt hi)]
   rw [e];exact limb_out a xs.length c i w hi
theorem refAdd_step (us xs ys:List Int) (i:Nat) (c t:Int) (hl:us.length=i) (h:val us+c*pw i=val (xs.take i)+val (ys.take i)) (ht:t=xs.getD i 0+ys.getD i 0+c) :
    val (us++[t % 4294967296])+t/4294967296*pw (i+1)=val (xs.take (i+1))+val (ys.take (i+1)):=by
 have hd:4294967296*(t/4294967296)+t % 4294967296=t:=Int.mul_ediv_add_emod t 4294967296;have htk:∀ zs:List Int,val (zs.take (i+1))=val (zs.take i)+zs.getD i 0*pw i:=by
  intro zs;by_cases hy:i<zs.length
  · exact val_take_succ zs i hy
  · have e1:zs.take (i+1)=zs.take i:=by rw [List.take_of_length_le (by omega),List.take_of_length_le (by omega)]
    have e2:zs.getD i 0=0:=by simp [List.getD,List.getElem?_eq_none (Nat.le_of_not_lt hy)]
    rw [e1,e2];simp
 rw [val_append,hl,htk xs,htk ys,pw_succ];simp only [val];generalize t/4294967296=q at *;generalize t % 4294967296=r at *;have key:=congrArg (fun u=>u*pw i) (hd.trans ht);simp only [Int.mul_zero,Int.add_zero] at *;simp only [Int.add_mul,Int.mul_add,Int.mul_assoc,Int.mul_comm,Int.mul_left_comm] at *;omega
theorem own_push {base:Nat} {w2:World} {v':Value} {us:List Int} {r:Int} (hl:lim us) (hr:0≤r∧r<4294967296) (h:w2.ownsRow base 100 1 v' (us.length+1) (us.map (Value.int .u32)++[.int .u32 r])):Own base w2 v' (us++[r]):=by
 refine ⟨lim_append.2 ⟨hl,fun x hx=>by simp at hx;omega⟩,?_⟩;rw [List.length_append,List.map_append];exact h
/-- The document's Add of two: the sum, right limbs. -/
theorem refAdd_any {B1 B2:Nat} {w:World} {v1 v2:Value} {xs ys:List Int} (h1:Rd B1 w v1 xs) (b1:B1≤w.heap.size) (h2:Rd B2 w v2 ys) (b2:B2≤w.heap.size) (n1:xs.length≤1000000000000) (n2:ys.length≤1000000000000) :
    Calls Tryz.prog 67 #[v1,v2] w fun e w'=>∃ zs,can zs∧val zs=val xs+val ys∧zs.length≤max xs.length ys.length+1∧Makes w e w' zs:=by
 obtain ⟨i0,hi,hz0,hz1,hz2⟩:=info_parts info_u32;have lx:=h1.lim;have ly:=h2.lim;obtain ⟨a1,c1,rfl⟩:∃ a c,v1=.slice a xs.length c:=by obtain ⟨_,a,c,rfl,_⟩:=h1;exact ⟨a,c,rfl⟩
 obtain ⟨a2,c2,rfl⟩:∃ a c,v2=.slice a ys.length c:=by obtain ⟨_,a,c,rfl,_⟩:=h2;exact ⟨a,c,rfl⟩
 go_enter Tryz.func67,Tryz.ntmps67;go_wp2
 go_loopw [5,6,7] (fun s cr ii wr=>∃ (i:Nat) (C:Int) (us:List Int) (a:Option Addr) (c:Nat),i≤max xs.length ys.length+1∧ii=.int .i64 i∧cr=.int .u64 C∧0≤C∧C≤1∧Hid (us.length=i)∧s=.slice a us.length c∧Own w.heap.size wr (.slice a us.length c) us∧Below w.heap.size w wr∧Hid (val us+C*pw i=val (xs.take i)+val (ys.take i))∧(i=max xs.length ys.length+1→C=0))
  (fun _ _ ii _=>max xs.length ys.length+1 - (intOf ii).toNat)
 case atStart=>exact ⟨0,0,[],none,0,by omega,rfl,rfl,by omega,by omega,rfl,rfl,⟨lim_nil,World.ownsRow_nil _ _ _ _⟩,Below.refl _ _,by unfold Hid;simp [val],fun h=>by omega⟩
 case round=>
  obtain ⟨i,C,us,a,c,hiM,rfl,rfl,hC0,hC1,hul,rfl,hown,hbl,hval,hlast⟩:=hrel;have hs:=hbl.size;by_cases hgo:i<xs.length∨i<ys.length∨0<C
  · have hiM2:i<max xs.length ys.length+1:=by
     rcases hgo with h | h | h
     · omega
     · omega
     · by_cases he:i=max xs.length ys.length+1
       · have:=hlast he;omega
       · omega
    have rx:=lim_getD lx i;have ry:=lim_getD ly i;have hT0:0≤xs.getD i 0+ys.getD i 0+C:=by omega
    have k1:=limb_rd (h1.below (hbl.mono b1)) i;have k2:=limb_rd (h2.below (hbl.mono b2)) i;have hval2:=refAdd_step us xs ys i C _ hul.out hval.out rfl;have hlast2:i+1=max xs.length ys.length+1→(xs.getD i 0+ys.getD i 0+C)/4294967296=0:=by
     intro he;have e1:xs.getD i 0=0:=by simp [List.getD,List.getElem?_eq_none (show xs.length≤i by omega)]
     have e2:ys.getD i 0=0:=by simp [List.getD,List.getElem?_eq_none (show ys.length≤i by omega)]
     rw [e1,e2];omega
    generalize hX:xs.getD i 0=X at *;generalize hY:ys.getD i 0=Y at *;have HVAL:Hid (val (us++[(X+Y+C) % 4294967296])+(X+Y+C)/4294967296*pw (i+1)=val (xs.take (i+1))+val (ys.take (i+1))):=hval2;have HLAST:Hid (i+1=max xs.length ys.length+1→(X+Y+C)/4294967296=0):=hlast2;clear hX hY hval2 hlast2 hlast;have huL:us.length=i:=hul.out;have HUL:us.length≤2000000000000:=by omega
    clear huL;have hcases:i<xs.length∨(xs.length≤i∧i<ys.length)∨(xs.length≤i∧ys.length≤i∧0<C):=by omega
    clear hgo;rcases hcases with q1 | ⟨q1,q2⟩ | ⟨q1,q2,q3⟩
    all_goals
     go_wp2_with fail
     refine k1.mono ?_;rintro e w' ⟨rfl,rfl⟩
     go_wp2_with fail
     refine k2.mono ?_;rintro e w' ⟨rfl,rfl⟩;clear k1 k2
     go_wp2_with (at_builtin;(refine wpList_append_own _ rfl _ _ 22 rfl w.heap.size 100 i0 (.int .u32 0) 1 4 Tryz.underlying22 hi hz0 hz1 hz2 rfl (by decide) _ us.length (us.map (Value.int .u32)) rfl (hown.2.alloc _) ⟨wr.heap.size,0,none⟩ 1 1 [.int .u32 ((X+Y+C) % 4294967296)] rfl rfl (cell1_new _ _ _) (by intro u hu;simp at hu;subst hu;rfl) (by unfold maxLen;omega) (by omega) (by simp;omega) ?_);intro v' w2 hown' hgrow _)
     have hO:=own_push hown.lim (by omega) hown';have hb2:Below w.heap.size w w2:=(hbl.alloc hs _).grown hgrow (by simp;omega) (fun k hk=>(hown.2.lt k hk).1);obtain ⟨a3,c3,hv3⟩:=hO.form;rw [hv3] at hO ⊢;clear hown' hgrow hv3 hown;go_wp2
     go_roundw
     case rel=>exact ⟨i+1,(X+Y+C)/4294967296,us++[(X+Y+C) % 4294967296],a3,c3,by omega,by go_num,rfl,by omega,by omega,(by unfold Hid;rw [List.length_append,hul.out];rfl),rfl,hO,hb2,HVAL,HLAST.out⟩
     case measure=>simp [intOf];omega
  · have q1:¬ i<xs.length:=fun h=>hgo (Or.inl h)
    have q2:¬ i<ys.length:=fun h=>hgo (Or.inr (Or.inl h));have q3:C=0:=by by_cases h:0<C;exact absurd (Or.inr (Or.inr h)) hgo;omega
    subst q3;have hfin:val us=val xs+val ys:=by
     have h3:=hval.out;rw [List.take_of_length_le (Nat.le_of_not_lt q1),List.take_of_length_le (Nat.le_of_not_lt q2)] at h3;simpa using h3
    have HF:Hid (val us=val xs+val ys):=hfin;have huL:us.length=i:=hul.out;clear hfin hgo;have hrd:=hown.rd;have hsz:us.length*4≤140737488355328:=by omega
    have hfl:us.length≤max xs.length ys.length+1:=by omega
    clear huL
    go_wp2_with fail
    refine (refTrim_rd hrd hsz).mono ?_;rintro e w2 ⟨a3,c3,rfl,ho3,hb3⟩;have ht:=tr_length_le us;go_wp2
    go_ret
    exact ⟨tr us,tr_can hown.lim,by rw [val_tr];exact HF.out,by omega,Makes.of rfl (ho3.mono hs) (hbl.trans (hb3.mono hs))⟩
theorem refMinus_step (us xs ys:List Int) (i:Nat) (c z c':Int) (hl:us.length=i) (h:val us - c*pw i=val (xs.take i) - val (ys.take i)) (ht:xs.getD i 0 - (ys.getD i 0+c)=z - c'*4294967296) :
    val (us++[z]) - c'*pw (i+1)=val (xs.take (i+1)) - val (ys.take (i+1)):=by
 have htk:∀ zs:List Int,val (zs.take (i+1))=val (zs.take i)+zs.getD i 0*pw i:=by
  intro zs;by_cases hy:i<zs.length
  · exact val_take_succ zs i hy
  · have e1:zs.take (i+1)=zs.take i:=by rw [List.take_of_length_le (by omega),List.take_of_length_le (by omega)]
    have e2:zs.getD i 0=0:=by simp [List.getD,List.getElem?_eq_none (Nat.le_of_not_lt hy)]
    rw [e1,e2];simp
 rw [val_append,hl,htk xs,htk ys,pw_succ];simp only [val];have key:=congrArg (fun u=>u*pw i) ht;simp only [Int.mul_zero,Int.add_zero] at *;simp only [Int.add_mul,Int.mul_add,Int.sub_mul,Int.mul_assoc,Int.mul_comm,Int.mul_left_comm] at *;omega
theorem val_cut {xs ys:List Int} (hx:lim xs) (hy:lim ys) (h:val ys≤val xs):val (ys.take xs.length)=val ys:=by
 by_cases hl:ys.length≤xs.length
 · rw [List.take_of_length_le hl]
 · have h1:=val_split ys xs.length (by omega)
   have h2:=(val_bound hx).2;have h3:=val_bound (lim_drop hy xs.length);have h4:=val_bound (lim_take hy xs.length);have hp:=pw_pos xs.length;have h5:val (ys.drop xs.length)=0:=by
    by_cases h0:val (ys.drop xs.length)=0
    · exact h0
    · have:pw xs.length*1≤pw xs.length*val (ys.drop xs.length):=Int.mul_le_mul_of_nonneg_left (by omega) (Int.le_of_lt hp)
      omega
   rw [h5] at h1;simp at h1;exact h1.symm
/-- The document's Minus. -/
theorem refMinus_any {B1 B2:Nat} {w:World} {v1 v2:Value} {xs ys:List Int} (h1:Rd B1 w v1 xs) (b1:B1≤w.heap.size) (h2:Rd B2 w v2 ys) (b2:B2≤w.heap.size) (n1:xs.length≤1000000000000) (n2:ys.length≤1000000000000) :
    Calls Tryz.prog 111 #[v1,v2] w fun e w'=>Minuses w (val xs - val ys) e w':=by
 obtain ⟨i0,hi,hz0,hz1,hz2⟩:=info_parts info_u32;have lx:=h1.lim;have ly:=h2.lim;obtain ⟨a1,c1,rfl⟩:∃ a c,v1=.slice a xs.length c:=by obtain ⟨_,a,c,rfl,_⟩:=h1;exact ⟨a,c,rfl⟩
 obtain ⟨a2,c2,rfl⟩:∃ a c,v2=.slice a ys.length c:=by obtain ⟨_,a,c,rfl,_⟩:=h2;exact ⟨a,c,rfl⟩
 by_cases hlt:val xs<val ys
 · have hcm:=cmpI_lt hlt
   go_enter Tryz.func111,Tryz.ntmps111
   go_wp2_with fail
   refine (refCompare_rd h1 h2 b2 (by omega) (by omega)).mono ?_;rintro e wa ⟨rfl,ba⟩;rw [hcm];go_wp2
   go_ret2
   refine ⟨ba,?_⟩;rw [if_pos (by omega)];rfl
 · obtain ⟨cm,hcm,hcm0⟩:∃ cm,cmpI (val xs) (val ys)=cm∧0≤cm:=by
    by_cases he:val xs=val ys
    · exact ⟨0,cmpI_eq he,by omega⟩
    · exact ⟨1,cmpI_gt (by omega),by omega⟩
   have HLT:Hid (val ys≤val xs):=by unfold Hid;omega
   go_enter Tryz.func111,Tryz.ntmps111
   go_wp2_with fail
   refine (refCompare_rd h1 h2 b2 (by omega) (by omega)).mono ?_;rintro e wa ⟨rfl,ba⟩;rw [hcm];have sa:=ba.size;clear hlt hcm;go_wp2
   go_loopw [6,7,8] (fun s cr ii wr=>∃ (i:Nat) (C:Int) (us:List Int) (a:Option Addr) (c:Nat),i≤xs.length∧ii=.int .i64 i∧cr=.int .u64 C∧0≤C∧C≤1∧Hid (us.length=i)∧s=.slice a us.length c∧Own w.heap.size wr (.slice a us.length c) us∧Below w.heap.size w wr∧Hid (val us - C*pw i=val (xs.take i) - val (ys.take i)))
    (fun _ _ ii _=>xs.length - (intOf ii).toNat)
   case atStart=>exact ⟨0,0,[],none,0,by omega,rfl,rfl,by omega,by omega,rfl,rfl,⟨lim_nil,World.ownsRow_nil _ _ _ _⟩,ba,by unfold Hid;simp [val]⟩
   case round=>
    obtain ⟨i,C,us,a,c,hiM,rfl,rfl,hC0,hC1,hul,rfl,hown,hbl,hval⟩:=hrel;have hs:=hbl.size;by_cases hgo:i<xs.length
    · have rx:=lim_getD lx i
      have ry:=lim_getD ly i;have k1:=limb_rd (h1.below (hbl.mono b1)) i;have k2:=limb_rd (h2.below (hbl.mono b2)) i;have hstep:=fun z c'=>refMinus_step us xs ys i C z c' hul.out hval.out;generalize hX:xs.getD i 0=X at *;generalize hY:ys.getD i 0=Y at *;have HSTEP:Hid (∀ z c',X - (Y+C)=z - c'*4294967296→val (us++[z]) - c'*pw (i+1)=val (xs.take (i+1)) - val (ys.take (i+1))):=hstep;clear hX hY hstep;have huL:us.length=i:=hul.out;have HUL:us.length≤2000000000000:=by omega
      clear huL;by_cases hneg:X<Y+C
      · go_wp2_with fail
        refine k1.mono ?_;rintro e w' ⟨rfl,rfl⟩
        go_wp2_with fail
        refine k2.mono ?_;rintro e w' ⟨rfl,rfl⟩;clear k1 k2;have hz:(X+4294967296 - (Y+C)) % 4294967296=X+4294967296 - (Y+C):=by omega
        go_wp2_with (at_builtin;(refine wpList_append_own _ rfl _ _ 22 rfl w.heap.size 100 i0 (.int .u32 0) 1 4 Tryz.underlying22 hi hz0 hz1 hz2 rfl (by decide) _ us.length (us.map (Value.int .u32)) rfl (hown.2.alloc _) ⟨wr.heap.size,0,none⟩ 1 1 [.int .u32 (X+4294967296 - (Y+C))] rfl rfl (cell1_new _ _ _) (by intro u hu;simp at hu;subst hu;rfl) (by unfold maxLen;omega) (by omega) (by simp;omega) ?_);intro v' w2 hown' hgrow _)
        have hO:=own_push hown.lim (by omega) hown';have hb2:Below w.heap.size w w2:=(hbl.alloc hs _).grown hgrow (by simp;omega) (fun k hk=>(hown.2.lt k hk).1);obtain ⟨a3,c3,hv3⟩:=hO.form;rw [hv3] at hO ⊢;clear hown' hgrow hv3 hown hz;go_wp2
        go_roundw
        case rel=>exact ⟨i+1,1,us++[X+4294967296 - (Y+C)],a3,c3,by omega,by go_num,rfl,by omega,by omega,(by unfold Hid;rw [List.length_append,hul.out];rfl),rfl,hO,hb2,HSTEP.out _ 1 (by omega)⟩
        case measure=>simp [intOf];omega
      · go_wp2_with fail
        refine k1.mono ?_;rintro e w' ⟨rfl,rfl⟩
        go_wp2_with fail
        refine k2.mono ?_;rintro e w' ⟨rfl,rfl⟩;clear k1 k2;have hz:(X - (Y+C)) % 4294967296=X - (Y+C):=by omega
        go_wp2_with (at_builtin;(refine wpList_append_own _ rfl _ _ 22 rfl w.heap.size 100 i0 (.int .u32 0) 1 4 Tryz.underlying22 hi hz0 hz1 hz2 rfl (by decide) _ us.length (us.map (Value.int .u32)) rfl (hown.2.alloc _) ⟨wr.heap.size,0,none⟩ 1 1 [.int .u32 (X - (Y+C))] rfl rfl (cell1_new _ _ _) (by intro u hu;simp at hu;subst hu;rfl) (by unfold maxLen;omega) (by omega) (by simp;omega) ?_);intro v' w2 hown' hgrow _)
        have hO:=own_push hown.lim (by omega) hown';have hb2:Below w.heap.size w w2:=(hbl.alloc hs _).grown hgrow (by simp;omega) (fun k hk=>(hown.2.lt k hk).1);obtain ⟨a3,c3,hv3⟩:=hO.form;rw [hv3] at hO ⊢;clear hown' hgrow hv3 hown hz;go_wp2
        go_roundw
        case rel=>exact ⟨i+1,0,us++[X - (Y+C)],a3,c3,by omega,by go_num,rfl,by omega,by omega,(by unfold Hid;rw [List.length_append,hul.out];rfl),rfl,hO,hb2,HSTEP.out _ 0 (by omega)⟩
        case measure=>simp [intOf];omega
    · obtain rfl:i=xs.length:=by omega
      have hfin:val us=val xs - val ys:=by
       have h3:=hval.out;rw [List.take_length,val_cut lx ly HLT.out] at h3;have h4:=(val_bound hown.lim).2;rw [hul.out] at h4;have h5:=HLT.out;have hc01:C=0∨C=1:=by omega
       rcases hc01 with rfl | rfl
       · simpa using h3
       · simp only [Int.one_mul] at h3;omega
      have HF:Hid (val us=val xs - val ys):=hfin;have hsz:us.length*4≤140737488355328:=by have:=hul.out;omega
      clear hfin
      go_wp2_with fail
      refine (refTrim_rd hown.rd hsz).mono ?_;rintro e w2 ⟨a3,c3,rfl,ho3,hb3⟩;go_wp2
      go_ret2
      refine ⟨hbl.trans (hb3.mono hs),?_⟩;rw [if_neg (by have:=HLT.out;omega)];exact ⟨tr us,a3,c3,tr_can hown.lim,by rw [val_tr];exact HF.out,rfl,ho3.mono hs⟩
theorem refMul_step (zs ys:List Int) (i j:Nat) (x c V t:Int) (hij:i+j<zs.length) (h:val zs+c*pw (i+j)=V+x*val (ys.take j)*pw i)
    (ht:t=zs.getD (i+j) 0+x*ys.getD j 0+c):val (zs.set (i+j) (t % 4294967296))+t/4294967296*pw (i+(j+1))=V+x*val (ys.take (j+1))*pw i:=by
 have hd:4294967296*(t/4294967296)+t % 4294967296=t:=Int.mul_ediv_add_emod t 4294967296;have htk:val (ys.take (j+1))=val (ys.take j)+ys.getD j 0*pw j:=by
  by_cases hy:j<ys.length
  · exact val_take_succ ys j hy
  · have e1:ys.take (j+1)=ys.take j:=by rw [List.take_of_length_le (by omega),List.take_of_length_le (by omega)]
    have e2:ys.getD j 0=0:=by simp [List.getD,List.getElem?_eq_none (Nat.le_of_not_lt hy)]
    rw [e1,e2];simp
 rw [val_set _ _ _ hij,htk,← Nat.add_assoc,pw_succ,pw_add] at *;generalize t/4294967296=q at *;generalize t % 4294967296=r at *;have key:=congrArg (fun u=>u*(pw i*pw j)) (hd.trans ht);simp only [Int.add_mul,Int.mul_add,Int.sub_mul,Int.mul_assoc,Int.mul_comm,Int.mul_left_comm] at *;omega
theorem Own.drewN {base:Nat} {w:World} {v:Value} {xs:List Int} (h:Own base w v xs) (n:Nat):Own base (w.drewN n) v xs:=h
/-- The document's Mul of two: the product, right limbs. -/
theorem refMul_any {B1 B2:Nat} {w:World} {v1 v2:Value} {xs ys:List Int} (h1:Rd B1 w v1 xs) (b1:B1≤w.heap.size) (h2:Rd B2 w v2 ys) (b2:B2≤w.heap.size) (n1:xs.length≤1000000000000) (n2:ys.length≤1000000000000) :
    Calls Tryz.prog 65 #[v1,v2] w fun e w'=>∃ zs,can zs∧val zs=val xs*val ys∧zs.length≤xs.length+ys.length+1∧Makes w e w' zs:=by
 obtain ⟨i0,hi,hz0,hz1,hz2⟩:=info_parts info_u32;have lx:=h1.lim;have ly:=h2.lim;have h1':=h1;obtain ⟨_,a1,c1,rfl,_,_,_,kp⟩:=h1';obtain ⟨a2,c2,rfl⟩:∃ a c,v2=.slice a ys.length c:=by obtain ⟨_,a,c,rfl,_⟩:=h2;exact ⟨a,c,rfl⟩
 go_enter Tryz.func65,Tryz.ntmps65
 go_wp2_with (at_make;refine wpList_make_full _ rfl _ _ 22 rfl w.heap.size 100 i0 (.int .u32 0) 1 Tryz.underlying22 hi hz0 hz1 _ _ _ _ (xs.length+ys.length+1) rfl rfl (by omega) (by omega) ?b2 ?b3 (Nat.le_refl _) ?_)
 case b2=>rw [hz2];omega
 case b3=>unfold maxLen;omega
 intro w0 hown0 hgrow0;have hO:=own_made hown0;have hb0:Below w.heap.size w w0:=(Below.refl _ _).grown hgrow0 (Nat.le_refl _) (fun k h=>by cases h);clear hown0 hgrow0;go_wp2
 go_loopw [6] (fun s wr=>∃ (i:Nat) (zs:List Int),i≤xs.length∧s=.int .i64 i∧Hid (zs.length=xs.length+ys.length+1)∧Own w.heap.size wr (.slice (some ⟨w.heap.size,0,none⟩) (xs.length+ys.length+1) (xs.length+ys.length+1)) zs∧Below w.heap.size w wr∧Hid (val zs=val (xs.take i)*val ys)∧Hid (∀ k,i+ys.length≤k→zs.getD k 0=0))
  (fun s _=>xs.length - (intOf s).toNat)
 case atStart=>exact ⟨0,List.replicate (xs.length+ys.length+1) 0,Nat.zero_le _,rfl,List.length_replicate,hO,hb0,by unfold Hid;rw [val_replicate];simp [val],fun k _=>by simp [List.getD,List.getElem?_replicate];split <;> rfl⟩
 case round=>
  obtain ⟨i,zs,hin,rfl,hzl,hown,hbl,hval,hzero⟩:=hrel;by_cases hlt:i<xs.length
  · obtain ⟨g,o,hpa,hg,hpc⟩:∃ g o,a1=some ⟨g,o,none⟩∧g<B1∧∀ j,j<xs.length→w.cell? ⟨g,o+j,none⟩=some (.int .u32 (xs.getD j 0)):=by
     rcases kp with kp | ⟨g,o,ha,hg,hc⟩
     · omega
     · exact ⟨g,o,ha,hg,hc⟩
    subst hpa;have hcx0:w.cell? ⟨g,o+i,none⟩=some (.int .u32 (xs.getD i 0)):=hpc i hlt;have rx:=lim_getD lx i;generalize hX:xs.getD i 0=X at *;have HX:Hid (xs.getD i 0=X):=hX;have hgw:g<w.heap.size:=by omega
    clear hX hpc hO hb0 kp;go_wp2
    obtain ⟨wo,rfl⟩:∃ wo:World,wo=wr:=⟨_,rfl⟩
    go_loopw [8,7] (fun s c wi=>∃ (j:Nat) (C:Int) (us:List Int),j≤ys.length+1∧s=.int .i64 j∧c=.int .u64 C∧0≤C∧C<4294967296∧Hid (us.length=xs.length+ys.length+1)∧Own w.heap.size wi (.slice (some ⟨w.heap.size,0,none⟩) (xs.length+ys.length+1) (xs.length+ys.length+1)) us∧Below w.heap.size w wi∧Hid (val us+C*pw (i+j)=val zs+X*val (ys.take j)*pw i)∧Hid (∀ k,i+ys.length+1≤k∨(j≤ys.length∧k=i+ys.length)→us.getD k 0=0)∧(j=ys.length+1→C=0))
     (fun s _ _=>ys.length+1 - (intOf s).toNat)
    case atStart=>exact ⟨0,0,zs,Nat.zero_le _,rfl,rfl,by omega,by omega,hzl,hown,hbl,by unfold Hid;simp [val],fun k hk=>hzero.out k (by omega),fun h=>by omega⟩
    case round=>
     obtain ⟨j,C,us,hjm,rfl,rfl,hC0,hC1,hul,hownu,hblu,hvalu,hzerou,hlast⟩:=hrel;have hNu:=hownu.lt hul.out;by_cases hgo:j<ys.length∨0<C
     · have hjl:j≤ys.length:=by
        rcases hgo with h | h
        · omega
        · by_cases he:j=ys.length+1
          · have:=hlast he;omega
          · omega
       have hcx:wr.cell? ⟨g,o+i,none⟩=some (.int .u32 X):=(hblu.cell hgw).trans hcx0;have ry:=lim_getD ly j;have hcz:=hownu.cellAt hul.out (i+j) (by omega);have hfz:=hownu.frozenAt hul.out (i+j);have rz:=lim_getD hownu.lim (i+j);have kl:∀ q,Calls Tryz.prog 128 #[.slice a2 ys.length c2,.int .i64 j] (wr.drewN q) fun e w'=>e=.returned (.int .u64 (ys.getD j 0))∧w'=wr.drewN q:=fun q=>
        (limb_rd ((h2.below (hblu.mono b2)).below (below_drewN' (Below.refl _ _) q)) j).mono fun e w' ⟨he,hw⟩=>⟨he,hw.symm⟩
       have hstep:=refMul_step us ys i j X C (val zs) _ (by rw [hul.out];omega) hvalu.out rfl;have hlast2:j+1=ys.length+1→(us.getD (i+j) 0+X*ys.getD j 0+C)/4294967296=0:=by
        intro he;have ej:j=ys.length:=by omega
        have e2:ys.getD j 0=0:=by simp [List.getD,List.getElem?_eq_none (show ys.length≤j by omega)]
        have e1:us.getD (i+j) 0=0:=hzerou.out (i+j) (Or.inr ⟨by omega,by omega⟩);rw [e1,e2];simp;omega
       generalize hY:ys.getD j 0=Y at *;generalize hZ:us.getD (i+j) 0=Z at *;have hxy:=mul_bound rx ry;have hT0:0≤Z+X*Y+C:=by omega
       have hT1:Z+X*Y+C<18446744073709551616:=by omega
       have hS:=hownu.stored hul.out (i+j) ((Z+X*Y+C) % 4294967296) (by omega);have HSTEP:Hid (val (us.set (i+j) ((Z+X*Y+C) % 4294967296))+(Z+X*Y+C)/4294967296*pw (i+(j+1))=val zs+X*val (ys.take (j+1))*pw i):=hstep;have HLAST:Hid (j+1=ys.length+1→(Z+X*Y+C)/4294967296=0):=hlast2;clear hY hZ hstep hlast2 hlast hcx0;have hcases:j<ys.length∨(ys.length≤j∧0<C):=by omega
       clear hgo;rcases hcases with q1 | ⟨q1,q2⟩
       all_goals
        go_wp2
        go_quiet ((go_at_call 128;exact Calls.quiet_of_same (kl _)))
        clear kl;go_wp2
        go_roundw
        case rel=>exact ⟨j+1,(Z+X*Y+C)/4294967296,us.set (i+j) ((Z+X*Y+C) % 4294967296),by omega,by go_num,rfl,by omega,by omega,(by unfold Hid;rw [List.length_set];exact hul.out),hS.drewN _,below_drewN' (hblu.setCell (Nat.le_refl _) _) _,HSTEP,
         (by unfold Hid;intro k hk;rw [getD_set];split;omega;exact hzerou.out k (by omega)),HLAST.out⟩
        case measure=>simp [intOf];omega
     · have q1:¬ j<ys.length:=fun h=>hgo (Or.inl h)
       have q2:C=0:=by by_cases h:0<C;exact absurd (Or.inr h) hgo;omega
       subst q2;have hfin:val us=val (xs.take (i+1))*val ys:=by
        have h3:=hvalu.out;rw [List.take_of_length_le (Nat.le_of_not_lt q1),hval.out] at h3;rw [val_take_succ xs i hlt,HX.out,Int.add_mul];simp only [Int.zero_mul,Int.add_zero] at h3;rw [h3];simp only [Int.mul_assoc,Int.mul_comm,Int.mul_left_comm]
       have HF:Hid (val us=val (xs.take (i+1))*val ys):=hfin;clear hfin hgo;go_wp2
       go_roundw
       case rel=>exact ⟨i+1,us,by omega,by go_num,hul,hownu,hblu,HF,fun k hk=>hzerou.out k (by omega)⟩
       case measure=>simp [intOf];omega
  · obtain rfl:i=xs.length:=by omega
    have hsz:zs.length*4≤140737488355328:=by have:=hzl.out;omega
    have hs:=hbl.size;clear kp
    go_wp2_with fail
    refine (refTrim_rd hown.rd hsz).mono ?_;rintro e w2 ⟨a3,c3,rfl,ho3,hb3⟩;have ht:=tr_length_le zs;go_wp2
    go_ret
    exact ⟨tr zs,tr_can hown.lim,by rw [val_tr,hval.out,List.take_length],by have:=hzl.out;omega,Makes.of rfl (ho3.mono hs) (hbl.trans (hb3.mono hs))⟩
theorem bits_or_u32_nat' (a b:Nat) (ha:a<4294967296) (hb:b<4294967296):bits .or .u32 (a:Int) (b:Int)=((a ||| b:Nat):Int):=by
 have hx:a ||| b<2 ^ 32:=Nat.or_lt_two_pow (by omega) (by omega)
 have h1:(BitVec.ofInt 32 (a:Int)).toNat=a:=by
  rw [BitVec.ofInt_natCast,BitVec.toNat_ofNat];exact Nat.mod_eq_of_lt (by omega)
 have h2:(BitVec.ofInt 32 (b:Int)).toNat=b:=by
  rw [BitVec.ofInt_natCast,BitVec.toNat_ofNat];exact Nat.mod_eq_of_lt (by omega)
 show IntKind.u32.wrap ((BitVec.ofInt 32 (a:Int) ||| BitVec.ofInt 32 (b:Int)).toNat:Int)=_
 rw [BitVec.toNat_or,h1,h2,IntKind.wrap_u32];omega
/-- Two times a limb, and a bit below. -/
theorem or_bit (x c:Int) (hx:0≤x∧x<4294967296) (hc:0≤c∧c≤1):bits .or .u32 (x*2 % 4294967296) c=x*2 % 4294967296+c:=by
 obtain ⟨k,hk⟩:∃ k:Nat,x*2 % 4294967296=((k*2:Nat):Int):=⟨(x % 2147483648).toNat,by omega⟩;obtain ⟨d,rfl⟩:=Int.eq_ofNat_of_zero_le hc.1;rw [hk,bits_or_u32_nat' _ _ (by omega) (by omega)];have h:k*2 ||| d=k*2+d:=by
  have:=Nat.two_pow_add_eq_or_of_lt (i:=1) (b:=d) (by omega) k;rw [Nat.mul_comm];exact this.symm
 rw [h];omega
/-- Half a limb, and a bit above. -/
theorem or_high (x c:Int) (hx:0≤x∧x<4294967296) (hc:0≤c∧c≤1):bits .or .u32 (x/2) (c*2147483648)=x/2+c*2147483648:=by
 obtain ⟨k,hk⟩:∃ k:Nat,x/2=(k:Int):=⟨(x/2).toNat,by omega⟩;obtain ⟨d,rfl⟩:=Int.eq_ofNat_of_zero_le hc.1;have e:((d:Int)*2147483648)=((d*2147483648:Nat):Int):=by omega
 rw [hk,e,bits_or_u32_nat' _ _ (by omega) (by omega)];have h:k ||| d*2147483648=k+d*2147483648:=by
  have:=Nat.two_pow_add_eq_or_of_lt (i:=31) (b:=k) (by omega) d;rw [Nat.or_comm,Nat.mul_comm,← this];omega
 rw [h];omega
theorem ref_and_one_u32 (x:Int) (h0:0≤x) (h1:x<4294967296):bits .and .u32 x 1=x % 2:=
 bits_mask .u32 32 (by decide) (fun n a b=>by rw [IntKind.wrap_u32];omega) 1 (by decide) x h0 (by omega)
theorem and_one_u64 (x:Int) (h0:0≤x) (h1:x<4294967296):bits .and .u64 x 1=x % 2:=
 bits_mask .u64 64 (by decide) (fun n a b=>by rw [IntKind.wrap_u64];omega) 1 (by decide) x h0 (by omega)
theorem twice_step (us xs:List Int) (i:Nat) (c z c' m:Int) (hl:us.length=i) (hi:i<xs.length) (h:val us+c*pw i=2*val (xs.take i)+m) (ht:2*xs.getD i 0+c=z+c'*4294967296) :
    val (us++[z])+c'*pw (i+1)=2*val (xs.take (i+1))+m:=by
 rw [val_append,hl,val_take_succ xs i hi,pw_succ];simp only [val];have key:=congrArg (fun u=>u*pw i) ht;simp only [Int.mul_zero,Int.add_zero] at *;simp only [Int.add_mul,Int.mul_add,Int.sub_mul,Int.mul_assoc,Int.mul_comm,Int.mul_left_comm] at *;omega
theorem half_step (us xs:List Int) (i:Nat) (z m:Int) (hl:us.length=i) (hi:i<xs.length) (h:2*val us+m=val (xs.take i)+xs.getD i 0 % 2*pw i) (ht:2*z=xs.getD i 0 - xs.getD i 0 % 2+xs.getD (i+1) 0 % 2*4294967296) :
    2*val (us++[z])+m=val (xs.take (i+1))+xs.getD (i+1) 0 % 2*pw (i+1):=by
 rw [val_append,hl,val_take_succ xs i hi,pw_succ];simp only [val];generalize xs.getD i 0 % 2=r at *;generalize xs.getD (i+1) 0 % 2=s at *;generalize xs.getD i 0=x at *;have key:=congrArg (fun u=>u*pw i) ht;simp only [Int.mul_zero,Int.add_zero] at *;simp only [Int.add_mul,Int.mul_add,Int.sub_mul,Int.mul_assoc,Int.mul_comm,Int.mul_left_comm] at *;omega
theorem val_mod2 (xs:List Int):val xs % 2=xs.getD 0 0 % 2:=by
 cases xs with
 | nil=>rfl
 | cons x xs=>simp only [val,List.getD_cons_zero];omega
/-- Half of limbs. -/
theorem half_end (us xs:List Int) (h:2*val us+xs.getD 0 0 % 2=val (xs.take xs.length)+xs.getD xs.length 0 % 2*pw xs.length):val us=val xs/2:=by
 have e:xs.getD xs.length 0=0:=by simp [List.getD]
 rw [e,List.take_length,← val_mod2] at h;simp at h;omega
/-- The number without its j lowest bits. -/
def sh (A:Int) (j:Nat):Int:=A/p2 j
theorem sh_zero (A:Int):sh A 0=A:=by unfold sh p2;simp
theorem sh_bits {A:Int} {b:Nat} (h:isBits A b):sh A b=0:=by
 unfold sh;rcases h with ⟨rfl,_⟩ | ⟨h1,h2,h3⟩
 · simp
 · exact Int.ediv_eq_zero_of_lt (by have:=p2_pos (b - 1);omega) h3
theorem sh_succ (A:Int) (j:Nat):sh A (j+1)=sh A j/2:=by
 unfold sh;rw [p2_succ,Int.mul_comm,← Int.ediv_ediv_of_nonneg (Int.le_of_lt (p2_pos j))]
theorem sh_step (A:Int) (j:Nat):sh A j=2*sh A (j+1)+sh A j % 2:=by rw [sh_succ];omega
theorem sh_le {A:Int} (h:0≤A) (j:Nat):sh A j≤A:=Int.ediv_le_self _ h
theorem sh_bit {xs:List Int} (h:lim xs) (i:Nat) (hi:i/32<xs.length):sh (val xs) i % 2=xs.getD (i/32) 0/2 ^ (i % 32) % 2:=by
 have hx:=lim_getD h (i/32);have e1:=val_split xs (i/32+1) (by omega);rw [val_take_succ xs _ hi,pw_succ] at e1;have hb:=val_bound (lim_take h (i/32));rw [List.length_take,Nat.min_eq_left (by omega)] at hb;have hp:=pw_pos (i/32);have e2:p2 i=pw (i/32)*2 ^ (i % 32):=by
  rw [pw_p2];unfold p2;rw [← Int.pow_add];congr 1;omega
 unfold sh;rw [e2,← Int.ediv_ediv_of_nonneg (Int.le_of_lt hp)];generalize val (xs.drop (i/32+1))=D at *;generalize xs.getD (i/32) 0=X at *;generalize val (xs.take (i/32))=L at *;have e3:val xs/pw (i/32)=X+4294967296*D:=by
  have e4:val xs=L+pw (i/32)*(X+4294967296*D):=by
   rw [e1];simp only [Int.add_mul,Int.mul_add,Int.mul_assoc,Int.mul_comm,Int.mul_left_comm];omega
  rw [e4,Int.add_mul_ediv_left _ _ (by omega),Int.ediv_eq_zero_of_lt hb.1 hb.2];omega
 rw [e3];have hj:i % 32<32:=Nat.mod_lt _ (by omega);generalize i % 32=j at *;obtain ⟨d,hd⟩:∃ d,31=j+d:=⟨31 - j,by omega⟩;have e5:(4294967296:Int)=2 ^ j*(2*2 ^ d):=by
  have:(2:Int) ^ j*2 ^ d=2 ^ 31:=by rw [← Int.pow_add,← hd]
  have e6:(2:Int) ^ j*(2*2 ^ d)=2*(2 ^ j*2 ^ d):=by simp only [Int.mul_assoc,Int.mul_comm,Int.mul_left_comm]
  rw [e6,this];rfl
 have hp2:(0:Int)<2 ^ j:=Int.pow_pos (by omega);rw [e5,Int.mul_assoc,Int.add_mul_ediv_left _ _ (by omega),Int.mul_assoc];omega
/-- One step of a division bit by bit. -/
theorem divBit_step (A B q r b:Int) (j:Nat) (h:sh A (j+1)=q*B+r) (hb:b=sh A j % 2) :
    sh A j=(2*q)*B+(2*r+b)∧sh A j=(2*q+1)*B+(2*r+b - B):=by
 have:=sh_step A j;rw [h,← hb] at this;rw [this];simp only [Int.add_mul,Int.mul_add,Int.mul_assoc];constructor <;> omega
/-- The greatest divisor of two even numbers; of an even and an odd one; of a difference. -/
theorem gI_even2 (x y:Int) (hx:0≤x) (hy:0≤y) (h1:x % 2=0) (h2:y % 2=0):gI x y=2*gI (x/2) (y/2):=by
 unfold gI;have e1:x.toNat=2*(x/2).toNat:=by omega
 have e2:y.toNat=2*(y/2).toNat:=by omega
 rw [e1,e2,Nat.gcd_mul_left];omega
theorem gI_even (x y:Int) (hx:0≤x) (hy:0≤y) (h1:x % 2=0) (h2:¬ y % 2=0):gI x y=gI (x/2) y:=by
 unfold gI;have e1:x.toNat=2*(x/2).toNat:=by omega
 have hc:Nat.Coprime 2 y.toNat:=by
  have:y.toNat % 2=1:=by omega
  unfold Nat.Coprime;rw [Nat.gcd_rec,this];rfl
 rw [e1,Nat.Coprime.gcd_mul_left_cancel _ hc]
theorem gI_even' (x y:Int) (hx:0≤x) (hy:0≤y) (h1:y % 2=0) (h2:¬ x % 2=0):gI x y=gI x (y/2):=by
 rw [gI_comm,gI_even y x hy hx h1 h2,gI_comm]
theorem gI_sub (x y:Int) (hy:0≤y) (h:y≤x):gI x y=gI (x - y) y:=by
 unfold gI;have e:x.toNat=(x - y).toNat+y.toNat:=by omega
 rw [e,Nat.gcd_add_self_left]
theorem gI_sub' (x y:Int) (hx:0≤x) (h:x≤y):gI x y=gI x (y - x):=by
 rw [gI_comm,gI_sub y x hx h,gI_comm]
theorem gI_p2 (t:Nat) (x y:Int) (hx:0≤x) (hy:0≤y):gI (p2 t*x) (p2 t*y)=p2 t*gI x y:=by
 obtain ⟨a,rfl⟩:=Int.eq_ofNat_of_zero_le hx;obtain ⟨b,rfl⟩:=Int.eq_ofNat_of_zero_le hy;have e:p2 t=((2 ^ t:Nat):Int):=by unfold p2;simp
 unfold gI;rw [e,← Int.natCast_mul,← Int.natCast_mul];simp only [Int.toNat_natCast];rw [Nat.gcd_mul_left,Int.natCast_mul]
/-- What a power with a limit answers: nothing where it has more limbs, else its limbs. -/
def PowersTo (w:World) (V:Int) (M:Nat) (e:Ending) (w':World):Prop:=
 Below w.heap.size w w'∧(pw M≤V→e=.returned (.tuple #[.slice none 0 0,.bool false])) ∧
  (V<pw M→∃ zs a c,can zs∧val zs=V∧e=.returned (.tuple #[.slice a zs.length c,.bool true])∧Own w.heap.size w' (.slice a zs.length c) zs)
theorem PowersTo.yes {w w':World} {V:Int} {M:Nat} {zs:List Int} {a:Option Addr} {c:Nat} (hb:Below w.heap.size w w') (hz:can zs) (hv:val zs=V) (hl:zs.length≤M) (ho:Own w.heap.size w' (.slice a zs.length c) zs) :
    PowersTo w V M (.returned (.tuple #[.slice a zs.length c,.bool true])) w':=
 ⟨hb,fun h=>by have:=(can_len_pw hz M).1 hl;omega,fun _=>⟨zs,a,c,hz,hv,rfl,ho⟩⟩
theorem PowersTo.no {w w':World} {V:Int} {M:Nat} (hb:Below w.heap.size w w') (hv:pw M≤V):PowersTo w V M (.returned (.tuple #[.slice none 0 0,.bool false])) w':=
 ⟨hb,fun _=>rfl,fun h=>by omega⟩
theorem pow_grow {X:Int} (h:1≤X) {j k:Nat} (hjk:j≤k):X ^ j≤X ^ k:=by
 induction hjk with
 | refl=>exact Int.le_refl _
 | step _ ih=>
  rw [Int.pow_succ];have h0:0≤X ^ j:=Int.pow_nonneg (by omega);rename_i m _;have h1:X ^ m*1≤X ^ m*X:=Int.mul_le_mul_of_nonneg_left h (by omega);omega
theorem pow_next (X:Int) (n k:Nat) (h:0<k) (hk:k≤n):X ^ (n - k)*X=X ^ (n - (k - 1)):=by
 rw [← Int.pow_succ];congr 1;omega
theorem long_pw {zs:List Int} (h:can zs) (M:Nat) (hl:¬ zs.length≤M):pw M≤val zs:=by
 have:=(can_len_pw h M).2;by_cases hv:val zs<pw M
 · exact absurd (this hv) hl
 · omega
theorem own_nil (base:Nat) (w:World):Own base w (.slice none 0 0) []:=⟨lim_nil,World.ownsRow_nil _ _ _ _⟩
theorem refPower_walk {B:Nat} {w:World} {v:Value} {xs:List Int} (n M:Nat) (V:Int) (h:Rd B w v xs) (hB:B≤w.heap.size) (hl:xs.length≤1000000) (hn:n<9223372036854775808) (hM:M≤1000000) (hV:Hid (V=val xs ^ n)) :
    Calls Tryz.prog 110 #[v,.int .i64 n,.int .i64 M] w fun e w'=>PowersTo w V M e w':=by
 have hO1:Own w.heap.size (w.alloc (.cells #[.int .u32 1] 100)) (.slice (some ⟨w.heap.size,0,none⟩) 1 1) [1]:=⟨can_one.1,World.ownsRow_lit w #[.int .u32 1] 1 (Nat.le_refl _) (by unfold maxLen;omega) rfl⟩;have b0:Below w.heap.size w (w.alloc (.cells #[.int .u32 1] 100)):=(Below.refl _ _).alloc (Nat.le_refl _) _;have h':=h.below (b0.mono hB);have s0:=b0.size;have ct:=tr_can h.lim;have hle:=tr_length_le xs;have hv:=val_tr xs;rw [← hv] at hV;go_enter Tryz.func110,Tryz.ntmps110
 go_wp2_with fail
 refine (refTrim_rd h' (by omega)).mono ?_;rintro e wa ⟨a1,q1,rfl,o1,ba⟩;have sa:=ba.size;have op:Own w.heap.size wa (.slice (some ⟨w.heap.size,0,none⟩) [(1:Int)].length 1) [1]:=hO1.below ba (Nat.le_refl _);have bw:Below w.heap.size w wa:=b0.trans (ba.mono s0);have ob:Own w.heap.size wa (.slice a1 (tr xs).length q1) (tr xs):=o1.mono s0;have hs:w.heap.size≤wa.heap.size:=bw.size;clear hO1 b0 h' ba o1 hv s0 sa;generalize tr xs=us at *;clear h;have one_end:∀ {M:Nat},¬ M=0→[(1:Int)].length≤M:=fun h=>by simp;omega
 by_cases h0:us.length=0
 · have e:us=[]:=List.eq_nil_of_length_eq_zero h0
   subst e;by_cases hn0:n=0
   · subst hn0
     have HV:Hid (V=1):=by unfold Hid;rw [hV.out];simp
     by_cases hM0:M=0
     · subst hM0
       go_wp2
       refine wp_loop_rounds 1 ?_;rw [rounds_succ];go_wp2
       go_ret2
       exact PowersTo.no bw (by rw [HV.out];decide)
     · go_wp2
       refine wp_loop_rounds 1 ?_;rw [rounds_succ];go_wp2
       go_ret2
       exact PowersTo.yes bw can_one (by rw [HV.out];decide) (one_end hM0) op
   · have HV:Hid (V=0):=by
      unfold Hid;rw [hV.out];obtain ⟨k,rfl⟩:∃ k,n=k+1:=⟨n - 1,by omega⟩;rw [Int.pow_succ];simp [val]
     go_wp2
     refine wp_loop_rounds 1 ?_;rw [rounds_succ];go_wp2
     go_ret2
     exact PowersTo.yes bw can_nil (by rw [HV.out];rfl) (Nat.zero_le _) (own_nil _ _)
 · obtain ⟨lu,_,_,e1,_,_,_,r1⟩:=ob.rd
   rcases r1 with r1 | ⟨g1,f1,ea1,_,k1⟩
   · exact absurd r1 h0
   subst ea1
   cases e1
   have hc0:=k1 0 (by omega);have hu0:=lim_getD lu 0;by_cases hone:us=[1]
   · subst hone
     have HV:Hid (V=1):=by unfold Hid;rw [hV.out,show val [1]=1 by decide];exact Int.one_pow
     have hc0':wa.cell? ⟨g1,f1,none⟩=some (.int .u32 1):=hc0;clear hc0 k1 hu0;by_cases hM0:M=0
     · subst hM0
       go_wp2
       refine wp_loop_rounds 1 ?_;rw [rounds_succ];go_wp2
       go_ret2
       exact PowersTo.no bw (by rw [HV.out];decide)
     · go_wp2
       refine wp_loop_rounds 1 ?_;rw [rounds_succ];go_wp2
       go_ret2
       exact PowersTo.yes bw can_one (by rw [HV.out];decide) (one_end hM0) op
   · have hpos:1≤val us:=by
      have:=can_low ct (by omega);have:=pw_pos (us.length - 1);omega
     have HX:Hid (1≤val us):=hpos;clear hpos;have hrb:Rd wa.heap.size wa (.slice (some ⟨g1,f1,none⟩) us.length q1) us:=ob.rd;have hcs:(us.length<2∧(us.getD 0 0==1)=false)∨2≤us.length:=by
      by_cases hl1:us.length=1
      · left
        refine ⟨by omega,beq_eq_false_iff_ne.2 fun hx=>hone ?_⟩
        match us,hl1 with
        | [x],_=>have:x=1:=hx;rw [this]
      · right;omega
     have hc0':wa.cell? ⟨g1,f1,none⟩=some (.int .u32 (us.getD 0 0)):=hc0;clear hc0 k1 hone;generalize us.getD 0 0=U at *;have hL:us.length≤1000000:=by omega
     rcases hcs with ⟨q1',q2'⟩ | q1'
     all_goals
      go_wp2
      go_loopw [1,8] (fun nn p wr=>∃ (k:Nat) (zs:List Int) (a:Option Addr) (c:Nat),k≤n∧nn=.int .i64 k∧can zs∧Hid (val zs=val us ^ (n - k))∧zs.length≤M+us.length+1∧p=.slice a zs.length c∧Own w.heap.size wr (.slice a zs.length c) zs∧Below wa.heap.size wa wr)
       (fun nn _ _=>(intOf nn).toNat)
      case atStart=>exact ⟨n,[1],some ⟨w.heap.size,0,none⟩,1,Nat.le_refl _,rfl,can_one,by unfold Hid;simp [val],by simp,rfl,op,Below.refl _ _⟩
      case round=>
       obtain ⟨k,zs,a,c,hkn,rfl,hcan,hval,hlen,rfl,hown,hbl⟩:=hrel;have hsz:=hbl.size;have bwr:Below w.heap.size w wr:=bw.trans (hbl.mono hs);by_cases hk0:k=0
       · subst hk0
         have HF:Hid (val zs=V):=by unfold Hid;rw [hval.out,hV.out];rfl
         by_cases hzM:zs.length≤M
         · go_wp2
           go_ret2
           exact PowersTo.yes bwr hcan HF.out hzM hown
         · go_wp2
           go_ret2
           exact PowersTo.no bwr (by rw [← HF.out];exact long_pw hcan M hzM)
       · by_cases hzM:zs.length≤M
         · go_wp2_with fail
           refine (refMul_any hown.rd (Nat.le_refl _) (hrb.below hbl) hsz (by omega) (by omega)).mono ?_;rintro e w2 ⟨us',cu,vu,lu',a3,c3,rfl,ho3,hb3⟩;go_wp2
           go_roundw
           case rel=>
            exact ⟨k - 1,us',a3,c3,by omega,by go_num,cu,(by unfold Hid;rw [vu,hval.out,pow_next _ _ _ (by omega) hkn]),by omega,rfl,ho3.mono (by omega),hbl.trans (hb3.mono hsz)⟩
           case measure=>simp [intOf];omega
         · go_wp2
           go_ret2
           exact PowersTo.no bwr (by
            have h1:=long_pw hcan M hzM;have h2:=pow_grow HX.out (show n - k≤n by omega);rw [hV.out];have:=hval.out;omega)
/-- The document's twice: two times a number, and a bit. -/
theorem refTwice_any {B:Nat} {w:World} {v:Value} {xs:List Int} (m:Int) (hm:0≤m∧m≤1) (h:Rd B w v xs) (hB:B≤w.heap.size) (hn:xs.length≤1000000000) :
    Calls Tryz.prog 130 #[v,.int .u32 m] w fun e w'=>∃ zs,can zs∧val zs=2*val xs+m∧Makes w e w' zs:=by
 obtain ⟨i0,hi,hz0,hz1,hz2⟩:=info_parts info_u32;have lx:=h.lim;obtain ⟨_,a1,c1,rfl,hcap0,hcap,_,kp⟩:=h;go_enter Tryz.func130,Tryz.ntmps130;go_wp2
 go_loopw [5,6,7] (fun s cr ii wr=>∃ (i:Nat) (C:Int) (us:List Int) (a:Option Addr) (c:Nat),i≤xs.length∧ii=.int .i64 i∧cr=.int .u32 C∧0≤C∧C≤1∧Hid (us.length=i)∧s=.slice a us.length c∧Own w.heap.size wr (.slice a us.length c) us∧Below w.heap.size w wr∧Hid (val us+C*pw i=2*val (xs.take i)+m))
  (fun _ _ ii _=>xs.length - (intOf ii).toNat)
 case atStart=>exact ⟨0,m,[],none,0,by omega,rfl,rfl,hm.1,hm.2,rfl,rfl,own_nil _ _,Below.refl _ _,by unfold Hid;simp [val,pw_zero]⟩
 case round=>
  obtain ⟨i,C,us,a,c,hiM,rfl,rfl,hC0,hC1,hul,rfl,hown,hbl,hval⟩:=hrel;have hs:=hbl.size;have huL:us.length=i:=hul.out;have HUL:us.length≤2000000000:=by omega
  clear huL;by_cases hgo:i<xs.length
  · rcases kp with kp | ⟨b,o,rfl,hbB,kp⟩
    · omega
    have rx:=lim_getD lx i;have hc:wr.cell? ⟨b,o+i,none⟩=some (.int .u32 (xs.getD i 0)):=(hbl.cell (by show b<w.heap.size;omega)).trans (kp i hgo);have hstep:=twice_step us xs i C (xs.getD i 0*2 % 4294967296+C) (xs.getD i 0/2147483648) m hul.out hgo hval.out (by omega);have hor:=or_bit (xs.getD i 0) C rx ⟨hC0,hC1⟩;generalize xs.getD i 0=X at *;have HST:Hid (val (us++[X*2 % 4294967296+C])+X/2147483648*pw (i+1)=2*val (xs.take (i+1))+m):=hstep;clear hstep kp;have hca:(wr.alloc (.cells #[.int .u32 (X*2 % 4294967296+C)] 100)).cell? ⟨b,o+i,none⟩=some (.int .u32 X):=by rw [← hc];exact ((Below.refl wr.heap.size wr).alloc (Nat.le_refl _) _).cell (by show b<wr.heap.size;omega)
    go_wp2_with (at_builtin;(refine wpList_append_own _ rfl _ _ 22 rfl w.heap.size 100 i0 (.int .u32 0) 1 4 Tryz.underlying22 hi hz0 hz1 hz2 rfl (by decide) _ us.length (us.map (Value.int .u32)) rfl (hown.2.alloc _) ⟨wr.heap.size,0,none⟩ 1 1 [.int .u32 (X*2 % 4294967296+C)] rfl rfl (cell1_new _ _ _) (by intro u hu;simp at hu;subst hu;rfl) (by unfold maxLen;omega) (by omega) (by simp;omega) ?_);intro v' w2 hown' hgrow _;have hb2:Below w.heap.size w w2:=(hbl.alloc hs _).grown hgrow (by simp;omega) (fun k hk=>(hown.2.lt k hk).1);have hc2:w2.cell? ⟨b,o+i,none⟩=some (.int .u32 X):=by rw [← hc,hbl.cell (p:=⟨b,o+i,none⟩) (by show b<w.heap.size;omega)];exact hb2.cell (by show b<w.heap.size;omega))
    have hO:=own_push hown.lim (by omega) hown';obtain ⟨a3,c3,hv3⟩:=hO.form;rw [hv3] at hO ⊢;clear hown' hgrow hv3 hown hor;go_wp2
    go_roundw
    case rel=>exact ⟨i+1,X/2147483648,us++[X*2 % 4294967296+C],a3,c3,by omega,by go_num,by go_num,by omega,by omega,(by unfold Hid;rw [List.length_append,hul.out];rfl),rfl,hO,hb2,HST⟩
    case measure=>simp [intOf];omega
  · obtain rfl:i=xs.length:=by omega
    have hfin:val (us++[C])=2*val xs+m:=by
     have h3:=hval.out;rw [List.take_length] at h3;rw [val_append,hul.out];simp only [val];rw [Int.mul_comm];simpa using h3
    have HF:Hid (val (us++[C])=2*val xs+m):=hfin;clear hfin kp
    go_wp2_with (at_builtin;(refine wpList_append_own _ rfl _ _ 22 rfl w.heap.size 100 i0 (.int .u32 0) 1 4 Tryz.underlying22 hi hz0 hz1 hz2 rfl (by decide) _ us.length (us.map (Value.int .u32)) rfl (hown.2.alloc _) ⟨wr.heap.size,0,none⟩ 1 1 [.int .u32 C] rfl rfl (cell1_new _ _ _) (by intro u hu;simp at hu;subst hu;rfl) (by unfold maxLen;omega) (by omega) (by simp;omega) ?_);intro v' w2 hown' hgrow _)
    have hO:=own_push hown.lim (by omega) hown';have hb2:Below w.heap.size w w2:=(hbl.alloc hs _).grown hgrow (by simp;omega) (fun k hk=>(hown.2.lt k hk).1);have hs2:=hb2.size;have hlen:(us++[C]).length*4≤140737488355328:=by simp;omega
    clear hown' hgrow hown
    go_wp2_with fail
    refine (refTrim_rd hO.rd hlen).mono ?_;rintro e w3 ⟨a3,c3,rfl,ho3,hb3⟩;go_wp2
    go_ret
    exact ⟨tr (us++[C]),tr_can hO.lim,by rw [val_tr];exact HF.out,Makes.of rfl (ho3.mono hs2) (hb2.trans (hb3.mono hs2))⟩
/-- The document's bit: one of a number. -/
theorem refBit_any {B:Nat} {w:World} {v:Value} {xs:List Int} (i:Nat) (m:Int) (hm:Hid (m=sh (val xs) i % 2)) (h:Rd B w v xs) (hi:i/32<xs.length) (hi2:i<9223372036854775807) :
    Calls Tryz.prog 131 #[v,.int .i64 i] w fun e w'=>e=.returned (.int .u32 m)∧w=w':=by
 have lx:=h.lim;obtain ⟨_,a1,c1,rfl,hcap0,hcap,_,kp⟩:=h;rcases kp with kp | ⟨b,o,rfl,hbB,kp⟩
 · omega
 have hc:=kp (i/32) hi;have rx:=lim_getD lx (i/32);have hm2:=hm.out;rw [sh_bit lx i hi] at hm2;have hq:0≤xs.getD (i/32) 0/2 ^ (i % 32)∧xs.getD (i/32) 0/2 ^ (i % 32)<4294967296:=by
  have hp:(0:Int)<2 ^ (i % 32):=Int.pow_pos (by omega);refine ⟨Int.ediv_nonneg rx.1 (by omega),?_⟩;have:=Int.ediv_le_self (2 ^ (i % 32)) rx.1;omega
 have hand:=ref_and_one_u32 _ hq.1 hq.2;rw [← hm2] at hand;clear hm2 hm kp;generalize xs.getD (i/32) 0=X at *;have e1:((i:Int)/32).toNat=i/32:=by omega
 have e2:((i:Int) % 32).toNat=i % 32:=by omega
 go_enter Tryz.func131,Tryz.ntmps131;go_wp2
 go_ret
 exact ⟨rfl,rfl⟩
/-- What a division answers: quotient and rest. -/
def RefDivs (w:World) (xs ys:List Int) (e:Ending) (w':World):Prop:=
 ∃ qs rs a c a' c',e=.returned (.tuple #[.slice a qs.length c,.slice a' rs.length c',.bool true])∧Own w.heap.size w' (.slice a qs.length c) qs∧Own w.heap.size w' (.slice a' rs.length c') rs∧can qs∧can rs∧val xs=val qs*val ys+val rs∧val rs<val ys∧Below w.heap.size w w'
theorem refDivMod_zero {B1:Nat} {w:World} {v1 v2:Value} {ys:List Int} (h2:Rd B1 w v2 ys) (hn:ys.length≤1000000) (h0:val ys=0) :
    Calls Tryz.prog 66 #[v1,v2] w fun e w'=>e=.returned (.tuple #[.slice none 0 0,.slice none 0 0,.bool false])∧Below w.heap.size w w':=by
 have ht:(tr ys).length=0:=by rw [can_zero (tr_can h2.lim),val_tr];exact h0
 go_enter Tryz.func66,Tryz.ntmps66
 go_wp2_with fail
 refine (refTrim_rd h2 (by omega)).mono ?_;rintro e wa ⟨a1,q1,rfl,o1,ba⟩;rw [ht];go_wp2
 go_ret3
 exact ⟨rfl,ba⟩
theorem len_of_lt {zs:List Int} (h:can zs) {L:Nat} (hv:val zs<pw L):zs.length≤L:=(can_len_pw h L).2 hv
theorem quot_le {A B q r:Int} (h:A=q*B+r) (hB:0<B) (hq:0≤q) (hr:0≤r):q≤A:=by
 have:q*1≤q*B:=Int.mul_le_mul_of_nonneg_left (by omega) hq;omega
theorem refDivMod_any {B1 B2:Nat} {w:World} {v1 v2:Value} {xs ys:List Int} (h1:Rd B1 w v1 xs) (b1:B1≤w.heap.size) (h2:Rd B2 w v2 ys) (b2:B2≤w.heap.size) (n1:xs.length≤1000000) (n2:ys.length≤1000000) (h0:¬ val ys=0) :
    Calls Tryz.prog 66 #[v1,v2] w fun e w'=>RefDivs w xs ys e w':=by
 have hA:=val_bound h1.lim;have hY:=val_bound h2.lim;have ht:¬ (tr ys).length=0:=by rw [can_zero (tr_can h2.lim),val_tr];exact h0
 have HA:Hid (0≤val xs∧val xs<pw xs.length):=hA;have HY:Hid (0<val ys∧val ys<pw ys.length):=⟨by omega,hY.2⟩;clear hA hY h0;go_enter Tryz.func66,Tryz.ntmps66
 go_wp2_with fail
 refine (refTrim_rd h2 (by omega)).mono ?_;rintro e wa ⟨a1,q1,rfl,o1,ba⟩;have ra1:=h1.below (ba.mono b1);have sa:=ba.size;clear o1;generalize (tr ys).length=T at ht
 go_wp2_with fail
 refine (refBits_any ra1 (by omega)).mono ?_;rintro e wb ⟨nb,rfl,hbits,bb⟩;have bw:Below w.heap.size w wb:=ba.trans (bb.mono sa);have hnb:nb≤32*xs.length:=by
  rcases hbits with ⟨_,rfl⟩ | ⟨k1,k2,k3⟩
  · omega
  · by_cases hle:nb≤32*xs.length
    · exact hle
    · have h3:=p2_mono (show 32*xs.length≤nb - 1 by omega)
      rw [← pw_p2] at h3;have:=HA.out;omega
 have HS:Hid (sh (val xs) nb=0):=sh_bits hbits;clear hbits;go_wp2
 go_loopw [7,8,9] (fun q r ii wr=>∃ (i:Nat) (qs rs:List Int) (a:Option Addr) (c:Nat) (a':Option Addr) (c':Nat),i≤nb∧ii=.int .i64 ((i:Int) - 1)∧can qs∧can rs∧Hid (sh (val xs) i=val qs*val ys+val rs∧val rs<val ys)∧q=.slice a qs.length c∧r=.slice a' rs.length c'∧Own w.heap.size wr (.slice a qs.length c) qs∧Own w.heap.size wr (.slice a' rs.length c') rs∧Below w.heap.size w wr)
  (fun _ _ ii _=>(intOf ii+1).toNat)
 case atStart=>exact ⟨nb,[],[],none,0,none,0,Nat.le_refl _,by go_num,can_nil,can_nil,(by unfold Hid;rw [HS.out];have:=HY.out;simp [val];omega),rfl,rfl,own_nil _ _,own_nil _ _,bw⟩
 case round=>
  obtain ⟨i,qs,rs,a,c,a',c',hib,rfl,cq,cr,hval,rfl,rfl,oq,or,hbl⟩:=hrel;have hs:=hbl.size;by_cases hi0:i=0
  · subst hi0
    have HF:Hid (val xs=val qs*val ys+val rs∧val rs<val ys):=by
     have:=hval.out;rw [sh_zero] at this;exact this
    go_wp2
    go_ret3
    exact ⟨qs,rs,a,c,a',c',rfl,oq,or,cq,cr,HF.out.1,HF.out.2,hbl⟩
  · obtain ⟨k,rfl⟩:∃ k,i=k+1:=⟨i - 1,by omega⟩
    have rw1:=h1.below (hbl.mono b1);have rw2:=h2.below (hbl.mono b2);obtain ⟨m,hm⟩:∃ m,Hid (m=sh (val xs) k % 2):=⟨_,rfl⟩;have hm01:0≤m∧m≤1:=by have:=hm.out;omega
    have hrl:rs.length≤ys.length:=len_of_lt cr (by have:=hval.out;have:=HY.out;omega);have hqn:=val_bound cq.1;have hrn:=val_bound cr.1;have hql:qs.length≤xs.length:=len_of_lt cq (by
     have h3:=quot_le hval.out.1 HY.out.1 hqn.1 hrn.1;have h4:=sh_le HA.out.1 (k+1);have:=HA.out;omega)
    have HN:Hid (0≤val qs∧0≤val rs):=⟨hqn.1,hrn.1⟩;clear hqn hrn;have eik:(((k+1:Nat):Int) - 1)=(k:Int):=by omega
    rw [eik]
    go_wp2_with fail
    refine (refBit_any k m hm rw1 (by omega) (by omega)).mono ?_;rintro e w' ⟨rfl,rfl⟩
    go_wp2_with fail
    refine (refTwice_any m hm01 or.rd (Nat.le_refl _) (by omega)).mono ?_;rintro e w2 ⟨r2,c2,v2',a2,q2,rfl,o2,bl2⟩;have s2:=bl2.size;have bw2:Below w.heap.size w w2:=hbl.trans (bl2.mono hs);have oq2:=oq.below bl2 (Nat.le_refl _);have hst:=divBit_step (val xs) (val ys) (val qs) (val rs) m k hval.out.1 hm.out;have HST:Hid (sh (val xs) k=(2*val qs)*val ys+(2*val rs+m)∧sh (val xs) k=(2*val qs+1)*val ys+(2*val rs+m - val ys)):=hst;have HV2:Hid (val r2=2*val rs+m):=v2';have hr2l:r2.length≤ys.length+1:=len_of_lt c2 (by
     rw [v2',pw_succ];have:=hval.out;have:=HY.out;omega)
    clear hst v2';have rd2:=h2.below (bw2.mono b2);by_cases hge:val ys≤val r2
    · obtain ⟨cm,hcm,hcm0⟩:∃ cm,cmpI (val r2) (val ys)=cm∧0≤cm:=by
       by_cases he:val r2=val ys
       · exact ⟨0,cmpI_eq he,by omega⟩
       · exact ⟨1,cmpI_gt (by omega),by omega⟩
      have HGE:Hid (val ys≤val r2):=hge;clear hge
      go_wp2_with fail
      refine (refCompare_rd o2.rd rd2 (by omega) (by omega) (by omega)).mono ?_;rintro e w3 ⟨rfl,bl3⟩;rw [hcm];clear hcm;have s3:=bl3.size;have bw3:Below w.heap.size w w3:=bw2.trans (bl3.mono (by omega));have rd3:=h2.below (bw3.mono b2);have o23:=o2.below bl3 (Nat.le_refl _);have oq3:=oq2.below bl3 (Nat.le_refl _)
      go_wp2_with fail
      refine (refMinus_any o23.rd (Nat.le_refl _) rd3 (by omega) (by omega) (by omega)).mono ?_;rintro e w4 ⟨bl4,hmin⟩;rw [if_neg (by have:=HGE.out;omega)] at hmin;obtain ⟨r4,a4,c4,can4,v4,rfl,o4⟩:=hmin;have s4:=bl4.size;have bw4:Below w.heap.size w w4:=bw3.trans (bl4.mono (by omega));have oq4:=oq3.below bl4 (Nat.le_refl _);have HV4:Hid (val r4=val r2 - val ys):=v4;clear v4
      go_wp2_with fail
      refine (refTwice_any 1 (by omega) oq4.rd (Nat.le_refl _) (by omega)).mono ?_;rintro e w5 ⟨q5,can5,v5,a5,c5,rfl,o5,bl5⟩;have s5:=bl5.size;have HV5:Hid (val q5=2*val qs+1):=v5;clear v5;go_wp2
      go_roundw
      case rel=>exact ⟨k,q5,r4,a5,c5,a4,c4,by omega,by go_num,can5,can4,(by
       unfold Hid;rw [HV5.out,HV4.out,HV2.out];refine ⟨HST.out.2,?_⟩;have:=hval.out;omega),rfl,rfl,o5.mono (by omega),(o4.below bl5 (Nat.le_refl _)).mono (by omega),bw4.trans (bl5.mono (by omega))⟩
      case measure=>simp [intOf]
    · have hcm:=cmpI_lt (show val r2<val ys by omega)
      have HGE:Hid (val r2<val ys):=by unfold Hid;omega
      clear hge
      go_wp2_with fail
      refine (refCompare_rd o2.rd rd2 (by omega) (by omega) (by omega)).mono ?_;rintro e w3 ⟨rfl,bl3⟩;rw [hcm];clear hcm;have s3:=bl3.size;have bw3:Below w.heap.size w w3:=bw2.trans (bl3.mono (by omega));have o23:=o2.below bl3 (Nat.le_refl _);have oq3:=oq2.below bl3 (Nat.le_refl _)
      go_wp2_with fail
      refine (refTwice_any 0 (by omega) oq3.rd (Nat.le_refl _) (by omega)).mono ?_;rintro e w5 ⟨q5,can5,v5,a5,c5,rfl,o5,bl5⟩;have s5:=bl5.size;have HV5:Hid (val q5=2*val qs):=by unfold Hid;omega
      clear v5;go_wp2
      go_roundw
      case rel=>exact ⟨k,q5,r2,a5,c5,a2,q2,by omega,by go_num,can5,c2,(by
       unfold Hid;rw [HV5.out];refine ⟨?_,HGE.out⟩;rw [HV2.out];exact HST.out.1),rfl,rfl,o5.mono (by omega),(o23.below bl5 (Nat.le_refl _)).mono (by omega),bw3.trans (bl5.mono (by omega))⟩
      case measure=>simp [intOf]
/-- append onto a slice of the call's own, as one step of a region that draws. -/
theorem step_append_own {P:Program} {ops:Array Oper} {o:Oper} {a:Act} {w:World} {K:Act→World→Prop} {Q:Exit→Act→World→Prop} {E:Prop} (hg:o.guard=none) (s x:Operand) (t:TypeId)
    (ho:o.op=.call { callee:=.builtin .append,args:=#[s,x],argTypes:=#[t,t] })
    (base:Nat) (e:TypeId) (i:TypeInfo) (z:Value) (size bytes:Nat) (ht:P.underlying t=some (.slice e)) (hi:P.info? e=some i) (hz:i.zero=some z)
    (hsize:i.size=size) (hby:i.bytes=bytes) (hzs:z.cells.size=size) (hsz:0<size)
    (v:Value) (n:Nat) (xs:List Value) (hs:a.eval s=v) (hown:w.ownsRow base e size v n xs)
    (ad:Addr) (m c:Nat) (news:List Value) (hx:a.eval x=.slice (some ad) m c) (hl:news.length=m*size) (hnews:∀ j u,news[j]? = some u→w.cell? (ad.add j)=some u) (h1:∀ u∈news,u.oneCell'=true)
    (h63:n+m≤maxLen) (hbytes:(n+m)*bytes≤140737488355328) (hbase:base≤w.heap.size)
    (hK:∀ v' w',w'.ownsRow base e size v' (n+m) (xs++news)→w.grownBy w' v.ownBlock→K (a.put o.dst v') w') :
    if Region.wanted o (yielded ops a.tmps)=true then Oper.wp P o a w K Q else E:=by
 rw [if_pos (by simp [Region.wanted,hg])];exact wp_append_own w s x t ho base e i z size bytes ht hi hz hsize hby hzs hsz v n xs hs hown ad m c news hx hl hnews h1 h63 hbytes hbase fun v' w' h2 h3 _=>hK v' w' h2 h3
/-- The document's half: a number by 2. -/
theorem refHalf_any {B:Nat} {w:World} {v:Value} {xs:List Int} (h:Rd B w v xs) (hB:B≤w.heap.size) (hn:xs.length≤1000000000) :
    Calls Tryz.prog 162 #[v] w fun e w'=>∃ zs,can zs∧val zs=val xs/2∧Makes w e w' zs:=by
 obtain ⟨i0,hi,hz0,hz1,hz2⟩:=info_parts info_u32;have lx:=h.lim;have hh:=h;obtain ⟨_,a1,c1,rfl,hcap0,hcap,_,kp⟩:=h;go_enter Tryz.func162,Tryz.ntmps162;go_wp2
 go_loopw [3,4] (fun s ii wr=>∃ (i:Nat) (us:List Int) (a:Option Addr) (c:Nat),i≤xs.length∧ii=.int .i64 i∧Hid (us.length=i)∧s=.slice a us.length c∧Own w.heap.size wr (.slice a us.length c) us∧Below w.heap.size w wr∧Hid (2*val us+xs.getD 0 0 % 2=val (xs.take i)+xs.getD i 0 % 2*pw i))
  (fun _ ii _=>xs.length - (intOf ii).toNat)
 case atStart=>exact ⟨0,[],none,0,by omega,rfl,rfl,rfl,own_nil _ _,Below.refl _ _,by unfold Hid;simp [val,pw_zero]⟩
 case round=>
  obtain ⟨i,us,a,c,hiM,rfl,hul,rfl,hown,hbl,hval⟩:=hrel;have hs:=hbl.size;have huL:us.length=i:=hul.out;have HUL:us.length≤2000000000:=by omega
  clear huL;by_cases hgo:i<xs.length
  · rcases kp with kp | ⟨b,o,rfl,hbB,kp⟩
    · omega
    have rx:=lim_getD lx i;have ry:=lim_getD lx (i+1);have hc:wr.cell? ⟨b,o+i,none⟩=some (.int .u32 (xs.getD i 0)):=(hbl.cell (by show b<w.heap.size;omega)).trans (kp i hgo);have rr:=hh.below (hbl.mono hB);have rrd:Rd B wr.drew (.slice (some ⟨b,o,none⟩) xs.length c1) xs:=rr;have k1:=limb_rd rrd (i+1);clear rr rrd;rw [show (((i+1:Nat)):Int)=(i:Int)+1 by omega] at k1;have hstep:=half_step us xs i (xs.getD i 0/2+xs.getD (i+1) 0 % 2*2147483648) _ hul.out hgo hval.out (by omega);have hor:=or_high (xs.getD i 0) (xs.getD (i+1) 0 % 2) rx (by omega);have hand:=and_one_u64 (xs.getD (i+1) 0) ry.1 ry.2;have HST:Hid (2*val (us++[xs.getD i 0/2+xs.getD (i+1) 0 % 2*2147483648])+xs.getD 0 0 % 2=val (xs.take (i+1))+xs.getD (i+1) 0 % 2*pw (i+1)):=hstep;clear hstep kp;generalize hX:xs.getD i 0=X at *;generalize hY:xs.getD (i+1) 0=Y at *;have hwr:IntKind.i64.wrap ((i:Int)+1)=(i:Int)+1:=by rw [IntKind.wrap_i64];omega
    have hw1:IntKind.u32.wrap (Y % 2)=Y % 2:=by rw [IntKind.wrap_u32];omega
    have hw2:IntKind.u32.wrap (Y % 2*2147483648)=Y % 2*2147483648:=by rw [IntKind.wrap_u32];omega
    have hbd:Below w.heap.size w wr.drew:=⟨hbl.os,hbl.tape,hbl.output,hbl.size,hbl.block⟩;have hcw:w.cell? ⟨b,o+i,none⟩=some (.int .u32 X):=by rw [← hc];exact (hbl.cell (p:=⟨b,o+i,none⟩) (by show b<w.heap.size;omega)).symm
    have hcd:wr.drew.cell? ⟨b,o+i,none⟩=some (.int .u32 X):=hc;go_wp2
    go_region_held3 (fun w'=>w'.cell? ⟨b,o+i,none⟩=some (.int .u32 X))
     (first | go_keep | exact hc2)
     (first
      | (go_at_call 128;refine k1.mono ?_;rintro e w' ⟨rfl,rfl⟩)
      | (refine step_append_own rfl _ _ 22 rfl w.heap.size 100 i0 (.int .u32 0) 1 4 Tryz.underlying22 hi hz0 hz1 hz2 rfl (by decide) _ us.length (us.map (Value.int .u32)) rfl (hown.drew.2.alloc _) ⟨wr.heap.size,0,none⟩ 1 1 [_] rfl rfl (cell1_new wr.drew _ _) (by intro u hu;simp at hu;subst hu;rfl) (by unfold maxLen;omega) (by omega) (by simp;omega) ?_;intro v' w2 hown' hgrow;have hb2:Below w.heap.size w w2:=(hbd.alloc hs _).grown hgrow (by simp;omega) (fun k hk=>(hown.2.lt k hk).1);have hc2:w2.cell? ⟨b,o+i,none⟩=some (.int .u32 X):=by rw [← hcw];exact hb2.cell (by show b<w.heap.size;omega)))
    have hO:=own_push hown.lim (by omega) hown';obtain ⟨a3,c3,hv3⟩:=hO.form;rw [hv3] at hO ⊢;clear hown' hgrow hv3 hown hor hand;go_wp2
    go_roundw
    case rel=>exact ⟨i+1,us++[X/2+Y % 2*2147483648],a3,c3,by omega,by go_num,(by unfold Hid;rw [List.length_append,hul.out];rfl),rfl,hO,hb2,(by rw [hY];exact HST)⟩
    case measure=>simp [intOf];omega
  · obtain rfl:i=xs.length:=by omega
    have hfin:=half_end us xs hval.out;have HF:Hid (val us=val xs/2):=hfin;have hlen:us.length*4≤140737488355328:=by omega
    clear hfin kp
    go_wp2_with fail
    refine (refTrim_rd hown.rd hlen).mono ?_;rintro e w3 ⟨a3,c3,rfl,ho3,hb3⟩;go_wp2
    go_ret
    exact ⟨tr us,tr_can hown.lim,by rw [val_tr];exact HF.out,Makes.of rfl (ho3.mono hs) (hbl.trans (hb3.mono hs))⟩
theorem pos_len {zs:List Int} (h:can zs) (hl:¬ zs.length=0):0<val zs:=by
 have h1:=can_low h (by omega);have h2:=pw_pos (zs.length - 1);omega
/-- The lowest limb of a number that is not 0. -/
theorem low_cell {base:Nat} {w:World} {a:Option Addr} {c:Nat} {zs:List Int} (h:Own base w (.slice a zs.length c) zs) (hl:¬ zs.length=0):∃ g o,a=some ⟨g,o,none⟩∧w.cell? ⟨g,o,none⟩=some (.int .u32 (zs.getD 0 0)):=by
 obtain ⟨_,_,_,e1,_,_,_,r1⟩:=h.rd;rcases r1 with r1 | ⟨g1,f1,ea1,_,k1⟩
 · exact absurd r1 hl
 cases e1
 exact ⟨g1,f1,ea1,k1 0 (by omega)⟩
theorem twos_bound {A x:Int} {t L:Nat} (h:A=p2 t*x) (hx:0<x) (hA:A<pw L):t<32*L:=by
 by_cases hle:t<32*L
 · exact hle
 · have h1:=p2_mono (show 32*L≤t by omega)
   rw [← pw_p2] at h1;have h2:p2 t*1≤p2 t*x:=Int.mul_le_mul_of_nonneg_left (by omega) (Int.le_of_lt (p2_pos t));omega
/-- How a pair stands in the second loop: not both are even and not 0. -/
def Odd1 (x y:Int):Prop:=x=0∨y=0∨¬ x % 2=0∨¬ y % 2=0
theorem refgcd_any {B1 B2:Nat} {w:World} {v1 v2:Value} {xs ys:List Int} (h1:Rd B1 w v1 xs) (b1:B1≤w.heap.size) (h2:Rd B2 w v2 ys) (b2:B2≤w.heap.size) (L:Nat) (n1:xs.length≤L) (n2:ys.length≤L) (hL:L≤1000000) :
    Calls Tryz.prog 127 #[v1,v2] w fun e w'=>∃ zs,can zs∧val zs=gI (val xs) (val ys)∧zs.length≤L+1∧Makes w e w' zs:=by
 have hA:=val_bound h1.lim;have hY:=val_bound h2.lim;have ca:=tr_can h1.lim;have cb:=tr_can h2.lim;have va:=val_tr xs;have vb:=val_tr ys;have HA:Hid (0≤val xs∧val xs<pw L):=⟨hA.1,by have:=pw_mono n1;omega⟩;have HY:Hid (0≤val ys∧val ys<pw L):=⟨hY.1,by have:=pw_mono n2;omega⟩;have HVA:Hid (val (tr xs)=val xs∧val (tr ys)=val ys):=⟨va,vb⟩;have la:=tr_length_le xs;have lb:=tr_length_le ys;clear hA hY va vb;go_enter Tryz.func127,Tryz.ntmps127
 go_wp2_with fail
 refine (refTrim_rd h1 (by omega)).mono ?_;rintro e wa ⟨a1,q1,rfl,o1,ba⟩;have sa:=ba.size
 go_wp2_with fail
 refine (refTrim_rd (h2.below (ba.mono b2)) (by omega)).mono ?_;rintro e wb ⟨a2,q2,rfl,o2,bb⟩;have sb:=bb.size;have bw:Below w.heap.size w wb:=ba.trans (bb.mono sa);have o1':=o1.below bb (Nat.le_refl _);have o2':Own w.heap.size wb (.slice a2 (tr ys).length q2) (tr ys):=o2.mono sa;clear o1 o2 ba bb sa sb;go_wp2
 go_loopg [0,1,5] (val xs).toNat (fun g A Bv tt wr=>∃ (t:Nat) (us vs:List Int) (a:Option Addr) (c:Nat) (a':Option Addr) (c':Nat),Hid (g=(val us).toNat)∧tt=.int .i64 t∧t≤32*L∧can us∧can vs∧Hid (val xs=p2 t*val us∧val ys=p2 t*val vs)∧us.length≤L∧vs.length≤L∧A=.slice a us.length c∧Bv=.slice a' vs.length c'∧Own w.heap.size wr (.slice a us.length c) us∧Own w.heap.size wr (.slice a' vs.length c') vs∧Below w.heap.size w wr)
 case atStart=>exact ⟨0,tr xs,tr ys,a1,q1,a2,q2,(by unfold Hid;rw [HVA.out.1]),rfl,by omega,ca,cb,(by unfold Hid;rw [HVA.out.1,HVA.out.2];simp [p2]),by omega,by omega,rfl,rfl,o1',o2',bw⟩
 case round=>
  obtain ⟨t,us,vs,a,c,a',c',hg,rfl,htL,cu,cv,hval,lu,lv,rfl,rfl,ou,ov,hbl⟩:=hrel;have hs:=hbl.size;have hun:=(val_bound cu.1).1;have hvn:=(val_bound cv.1).1;have hcases:(¬ 0<us.length)∨(0<us.length∧¬ 0<vs.length)∨(0<us.length∧0<vs.length∧¬ us.getD 0 0 % 2=0)∨(0<us.length∧0<vs.length∧us.getD 0 0 % 2=0∧¬ vs.getD 0 0 % 2=0)∨(0<us.length∧0<vs.length∧us.getD 0 0 % 2=0∧vs.getD 0 0 % 2=0):=by omega
  have mu:=val_mod2 us;have mv:=val_mod2 vs;have ru:=lim_getD cu.1 0;have rv:=lim_getD cv.1 0;have hexit:∀ {p:Prop},(us.length=0∨vs.length=0∨¬ us.getD 0 0 % 2=0∨¬ vs.getD 0 0 % 2=0)→Odd1 (val us) (val vs):=by
   intro _ h;rcases h with h | h | h | h
   · exact Or.inl ((can_zero cu).1 h)
   · exact Or.inr (Or.inl ((can_zero cv).1 h))
   · exact Or.inr (Or.inr (Or.inl (by omega)))
   · exact Or.inr (Or.inr (Or.inr (by omega)))
  rcases hcases with q0 | ⟨q0,q1⟩ | ⟨q0,q1,q2⟩ | ⟨q0,q1,q2,q3⟩ | ⟨q0,q1,q2,q3⟩
  rotate_right
  · -- both even
    obtain ⟨g1,f1,rfl,k1⟩:=low_cell ou (by omega);obtain ⟨g2,f2,rfl,k2⟩:=low_cell ov (by omega);have e1:bits .and .u32 (us.getD 0 0) 1=0:=by rw [ref_and_one_u32 _ ru.1 ru.2];exact q2
    have e2:bits .and .u32 (vs.getD 0 0) 1=0:=by rw [ref_and_one_u32 _ rv.1 rv.2];exact q3
    have hup:=pos_len cu (by omega);have hmu:val us % 2=0:=by omega
    have hmv:val vs % 2=0:=by omega
    have htb:=twos_bound hval.out.1 hup HA.out.2;have HM:Hid (val us % 2=0∧val vs % 2=0∧0<val us∧0≤val vs):=⟨hmu,hmv,hup,hvn⟩;clear hup hmu hmv mu mv hexit hun hvn;generalize us.getD 0 0=U at *;generalize vs.getD 0 0=V at *
    go_wp2_with fail
    refine (refHalf_any ou.rd (Nat.le_refl _) (by omega)).mono ?_;rintro e w1 ⟨z1,cz1,vz1,a3,c3,rfl,o3,b3⟩;have s3:=b3.size;have ov3:=ov.below b3 (Nat.le_refl _);have HZ1:Hid (val z1=val us/2):=vz1;clear vz1
    go_wp2_with fail
    refine (refHalf_any ov3.rd (Nat.le_refl _) (by omega)).mono ?_;rintro e w2 ⟨z2,cz2,vz2,a4,c4,rfl,o4,b4⟩;have s4:=b4.size;have HZ2:Hid (val z2=val vs/2):=vz2;clear vz2;have o34:=o3.below b4 (Nat.le_refl _);have l1:z1.length≤us.length:=len_of_lt cz1 (by
     have:=(val_bound cu.1).2;have:=HZ1.out;have:=HM.out;omega)
    have l2:z2.length≤vs.length:=len_of_lt cz2 (by
     have:=(val_bound cv.1).2;have:=HZ2.out;have:=HM.out;omega)
    go_wp2
    go_roundg (val z1).toNat
    case measure=>have:=hg.out;have:=HZ1.out;have:=HM.out;omega
    case rel=>exact ⟨t+1,z1,z2,a3,c3,a4,c4,rfl,by go_num,by omega,cz1,cz2,(by
     unfold Hid;have h3:=hval.out;have h4:=HM.out;rw [p2_succ,HZ1.out,HZ2.out];have e3:2*p2 t*(val us/2)=p2 t*val us:=by
      rw [Int.mul_comm 2,Int.mul_assoc];congr 1;omega
     have e4:2*p2 t*(val vs/2)=p2 t*val vs:=by
      rw [Int.mul_comm 2,Int.mul_assoc];congr 1;omega
     rw [e3,e4];exact h3),by omega,by omega,rfl,rfl,o34.mono hs,o4.mono (by omega),hbl.trans ((b3.mono hs).trans (b4.mono (by omega)))⟩
  case' inl=>have ho:=hexit (p:=True) (Or.inl (by omega))
  case' inr.inl=>have ho:=hexit (p:=True) (Or.inr (Or.inl (by omega)))
  case' inr.inr.inl=>
   have ho:=hexit (p:=True) (Or.inr (Or.inr (Or.inl q2)));obtain ⟨g1,f1,rfl,k1⟩:=low_cell ou (by omega);have e1:bits .and .u32 (us.getD 0 0) 1=1:=by rw [ref_and_one_u32 _ ru.1 ru.2];omega
  case' inr.inr.inr.inl=>
   have ho:=hexit (p:=True) (Or.inr (Or.inr (Or.inr q3)));obtain ⟨g1,f1,rfl,k1⟩:=low_cell ou (by omega);obtain ⟨g2,f2,rfl,k2⟩:=low_cell ov (by omega);have e1:bits .and .u32 (us.getD 0 0) 1=0:=by rw [ref_and_one_u32 _ ru.1 ru.2];exact q2
   have e2:bits .and .u32 (vs.getD 0 0) 1=1:=by rw [ref_and_one_u32 _ rv.1 rv.2];omega
  all_goals
   have HO:Hid (Odd1 (val us) (val vs)):=ho;clear hexit ho mu mv;generalize us.getD 0 0=U at *;generalize vs.getD 0 0=V at *;obtain ⟨G,hG⟩:∃ G,Hid (G=gI (val us) (val vs)):=⟨_,rfl⟩;have HVAL:Hid (p2 t*G=gI (val xs) (val ys)):=by
    unfold Hid;rw [hG.out,hval.out.1,hval.out.2,gI_p2 t _ _ hun hvn]
   clear hun hvn;go_wp2
   go_loopg [0,1] (val us+val vs).toNat (fun g A Bv wr2=>∃ (us2 vs2:List Int) (a2:Option Addr) (c2:Nat) (a2':Option Addr) (c2':Nat),Hid (g=(val us2+val vs2).toNat)∧can us2∧can vs2∧Hid (G=gI (val us2) (val vs2)∧Odd1 (val us2) (val vs2))∧us2.length≤L∧vs2.length≤L∧A=.slice a2 us2.length c2∧Bv=.slice a2' vs2.length c2'∧Own w.heap.size wr2 (.slice a2 us2.length c2) us2∧Own w.heap.size wr2 (.slice a2' vs2.length c2') vs2∧Below w.heap.size w wr2)
   case atStart=>exact ⟨us,vs,_,c,_,c',rfl,cu,cv,⟨hG.out,HO.out⟩,lu,lv,rfl,rfl,ou,ov,hbl⟩
   case round=>
    clear q0 ou ov hbl hs ru rv cu cv lu lv hval hg hG HO;obtain ⟨us2,vs2,a2,c2,a2',c2',hg2,cu2,cv2,hval2,lu2,lv2,rfl,rfl,ou2,ov2,hbl2⟩:=hrel;have hs2:=hbl2.size;have hun:=(val_bound cu2.1).1;have hvn:=(val_bound cv2.1).1;have HN:Hid (0≤val us2∧0≤val vs2):=⟨hun,hvn⟩;clear hun hvn;by_cases hend:us2.length=0∨vs2.length=0
    · have HG:Hid (val us2+val vs2=G):=by
       unfold Hid;have h3:=HN.out;rw [hval2.out.1];rcases hend with h | h
       · rw [(can_zero cu2).1 h,gI_zero_left _ h3.2];omega
       · rw [(can_zero cv2).1 h,gI_zero _ h3.1];omega
      have hend2:(¬ 0<us2.length)∨(0<us2.length∧¬ 0<vs2.length):=by omega
      clear hend;rcases hend2 with h5 | ⟨h5,h6⟩
      all_goals
       go_wp2_with fail
       refine (refAdd_any ou2.rd (Nat.le_refl _) ov2.rd (Nat.le_refl _) (by omega) (by omega)).mono ?_;rintro e w3 ⟨zs,cz,vz,lz,a3,c3,rfl,o3,b3⟩;have s3:=b3.size;rw [HG.out] at vz;have HZ:Hid (val zs*p2 t=gI (val xs) (val ys)):=by unfold Hid;rw [vz,Int.mul_comm];exact HVAL.out
       clear vz h5;have bw3:Below w.heap.size w w3:=hbl2.trans (b3.mono hs2);go_wp2
       go_loopw [5,6] (fun tt gg wr3=>∃ (t':Nat) (us3:List Int) (a4:Option Addr) (c4:Nat),t'≤t∧tt=.int .i64 t'∧can us3∧Hid (val us3*p2 t'=gI (val xs) (val ys))∧us3.length≤L+1∧gg=.slice a4 us3.length c4∧Own w.heap.size wr3 (.slice a4 us3.length c4) us3∧Below w.heap.size w wr3)
        (fun tt _ _=>(intOf tt).toNat)
       case atStart=>exact ⟨t,zs,a3,c3,Nat.le_refl _,rfl,cz,HZ,by omega,rfl,o3.mono hs2,bw3⟩
       case round=>
        obtain ⟨t',us3,a4,c4,htt,rfl,cu3,hval3,lu3,rfl,ou3,hbl3⟩:=hrel;have hs3:=hbl3.size;by_cases ht0:t'=0
        · subst ht0
          have HE:Hid (val us3=gI (val xs) (val ys)):=by have:=hval3.out;unfold Hid;simpa [p2] using this
          go_wp2
          go_ret
          exact ⟨us3,cu3,HE.out,lu3,a4,c4,rfl,ou3,hbl3⟩
        · go_wp2_with fail
          refine (refTwice_any 0 (by omega) ou3.rd (Nat.le_refl _) (by omega)).mono ?_;rintro e w5 ⟨z5,can5,v5,a5,c5,rfl,o5,bl5⟩;have HV5:Hid (val z5*p2 (t' - 1)=gI (val xs) (val ys)):=by
           unfold Hid;rw [v5,← hval3.out];obtain ⟨k,rfl⟩:∃ k,t'=k+1:=⟨t' - 1,by omega⟩;rw [p2_succ,Int.add_zero,Nat.add_sub_cancel,Int.mul_assoc,Int.mul_left_comm]
          have hl5:z5.length≤L+1:=len_of_lt can5 (by
           have h6:=gI_le (val xs) (val ys) HA.out.1 HY.out.1;have h7:=HA.out;have h8:=HY.out;have h9:val z5*1≤val z5*p2 (t' - 1):=Int.mul_le_mul_of_nonneg_left (by have:=p2_pos (t' - 1);omega) (val_bound can5.1).1;have:=HV5.out;rw [pw_succ];omega)
          clear v5;go_wp2
          go_roundw
          case rel=>exact ⟨t' - 1,z5,a5,c5,by omega,by go_num,can5,HV5,hl5,rfl,o5.mono hs3,hbl3.trans (bl5.mono hs3)⟩
          case measure=>simp [intOf];omega
    · have hu1:0<us2.length:=by omega
      have hv1:0<vs2.length:=by omega
      clear hend;have hup:=pos_len cu2 (by omega);have hvp:=pos_len cv2 (by omega);have mu:=val_mod2 us2;have mv:=val_mod2 vs2;have ru:=lim_getD cu2.1 0;have rv:=lim_getD cv2.1 0;have bu:=(val_bound cu2.1).2;have bv:=(val_bound cv2.1).2;have HP:Hid (0<val us2∧0<val vs2∧val us2<pw us2.length∧val vs2<pw vs2.length):=⟨hup,hvp,bu,bv⟩;obtain ⟨g1,f1,rfl,k1⟩:=low_cell ou2 (by omega);obtain ⟨g2,f2,rfl,k2⟩:=low_cell ov2 (by omega);have hodd:=hval2.out.2;have hG2:=hval2.out.1;clear hup hvp bu bv;by_cases hue:us2.getD 0 0 % 2=0
      · have e1:bits .and .u32 (us2.getD 0 0) 1=0:=by rw [ref_and_one_u32 _ ru.1 ru.2];exact hue
        have hvo:¬ val vs2 % 2=0:=by
         rcases hodd with h | h | h | h
         · have:=HP.out;omega
         · have:=HP.out;omega
         · exact absurd (mu.trans hue) h
         · exact h
        have HG3:Hid (G=gI (val us2/2) (val vs2)∧Odd1 (val us2/2) (val vs2)):=⟨by rw [hG2];exact gI_even _ _ HN.out.1 HN.out.2 (mu.trans hue) hvo,Or.inr (Or.inr (Or.inr hvo))⟩;clear hodd hG2 hvo mu mv hval2;generalize us2.getD 0 0=U at *;generalize vs2.getD 0 0=V at *
        go_wp2_with fail
        refine (refHalf_any ou2.rd (Nat.le_refl _) (by omega)).mono ?_;rintro e w3 ⟨z1,cz1,vz1,a3,c3,rfl,o3,b3⟩;have s3:=b3.size;have ov3:=ov2.below b3 (Nat.le_refl _);rw [← vz1] at HG3;have HZ1:Hid (val z1=val us2/2):=vz1;clear vz1;have l1:z1.length≤us2.length:=len_of_lt cz1 (by have:=HZ1.out;have:=HP.out;omega);go_wp2
        go_roundg (val z1+val vs2).toNat
        case measure=>have:=hg2.out;have:=HZ1.out;have:=HP.out;omega
        case rel=>exact ⟨z1,vs2,a3,c3,_,c2',rfl,cz1,cv2,HG3,by omega,lv2,rfl,rfl,o3.mono hs2,ov3,hbl2.trans (b3.mono hs2)⟩
      · have e1:bits .and .u32 (us2.getD 0 0) 1=1:=by rw [ref_and_one_u32 _ ru.1 ru.2];omega
        have huo:¬ val us2 % 2=0:=fun h=>hue (mu.symm.trans h);by_cases hve:vs2.getD 0 0 % 2=0
        · have e2:bits .and .u32 (vs2.getD 0 0) 1=0:=by rw [ref_and_one_u32 _ rv.1 rv.2];exact hve
          have HG3:Hid (G=gI (val us2) (val vs2/2)∧Odd1 (val us2) (val vs2/2)):=⟨by rw [hG2];exact gI_even' _ _ HN.out.1 HN.out.2 (mv.trans hve) huo,Or.inr (Or.inr (Or.inl huo))⟩;clear hodd hG2 huo mu mv hval2;generalize us2.getD 0 0=U at *;generalize vs2.getD 0 0=V at *
          go_wp2_with fail
          refine (refHalf_any ov2.rd (Nat.le_refl _) (by omega)).mono ?_;rintro e w3 ⟨z1,cz1,vz1,a3,c3,rfl,o3,b3⟩;have s3:=b3.size;have ou3:=ou2.below b3 (Nat.le_refl _);rw [← vz1] at HG3;have HZ1:Hid (val z1=val vs2/2):=vz1;clear vz1;have l1:z1.length≤vs2.length:=len_of_lt cz1 (by have:=HZ1.out;have:=HP.out;omega);go_wp2
          go_roundg (val us2+val z1).toNat
          case measure=>have:=hg2.out;have:=HZ1.out;have:=HP.out;omega
          case rel=>exact ⟨us2,z1,_,c2,a3,c3,rfl,cu2,cz1,HG3,lu2,by omega,rfl,rfl,ou3,o3.mono hs2,hbl2.trans (b3.mono hs2)⟩
        · have e2:bits .and .u32 (vs2.getD 0 0) 1=1:=by rw [ref_and_one_u32 _ rv.1 rv.2];omega
          have hvo:¬ val vs2 % 2=0:=fun h=>hve (mv.symm.trans h);have HUV:Hid (¬ val us2 % 2=0∧¬ val vs2 % 2=0):=⟨huo,hvo⟩;clear hodd huo hvo mu mv;generalize us2.getD 0 0=U at *;generalize vs2.getD 0 0=V at *;by_cases hge:val vs2≤val us2
          · obtain ⟨cm,hcm,hcm0⟩:∃ cm,cmpI (val us2) (val vs2)=cm∧0≤cm:=by
             by_cases he:val us2=val vs2
             · exact ⟨0,cmpI_eq he,by omega⟩
             · exact ⟨1,cmpI_gt (by omega),by omega⟩
            have HG3:Hid (G=gI (val us2 - val vs2) (val vs2)∧Odd1 (val us2 - val vs2) (val vs2)):=⟨by rw [hG2];exact gI_sub _ _ HN.out.2 hge,Or.inr (Or.inr (Or.inr HUV.out.2))⟩;have HGE:Hid (val vs2≤val us2):=hge;clear hge hG2 hval2
            go_wp2_with fail
            refine (refCompare_rd ou2.rd ov2.rd (Nat.le_refl _) (by omega) (by omega)).mono ?_;rintro e w3 ⟨rfl,b3⟩;rw [hcm];clear hcm;have s3:=b3.size;have ou3:=ou2.below b3 (Nat.le_refl _);have ov3:=ov2.below b3 (Nat.le_refl _)
            go_wp2_with fail
            refine (refMinus_any ou3.rd (Nat.le_refl _) ov3.rd (Nat.le_refl _) (by omega) (by omega)).mono ?_;rintro e w4 ⟨bl4,hmin⟩;rw [if_neg (by have:=HGE.out;omega)] at hmin;obtain ⟨z1,a4,c4,cz1,vz1,rfl,o4⟩:=hmin;have s4:=bl4.size;have ov4:=ov3.below bl4 (Nat.le_refl _);rw [← vz1] at HG3;have HZ1:Hid (val z1=val us2 - val vs2):=vz1;clear vz1;have l1:z1.length≤us2.length:=len_of_lt cz1 (by have:=HZ1.out;have:=HP.out;omega);go_wp2
            go_roundg (val z1+val vs2).toNat
            case measure=>have:=hg2.out;have:=HZ1.out;have:=HP.out;omega
            case rel=>exact ⟨z1,vs2,a4,c4,_,c2',rfl,cz1,cv2,HG3,by omega,lv2,rfl,rfl,o4.mono (by omega),ov4,hbl2.trans ((b3.mono hs2).trans (bl4.mono (by omega)))⟩
          · have hcm:=cmpI_lt (show val us2<val vs2 by omega)
            have HG3:Hid (G=gI (val us2) (val vs2 - val us2)∧Odd1 (val us2) (val vs2 - val us2)):=⟨by rw [hG2];exact gI_sub' _ _ HN.out.1 (by omega),Or.inr (Or.inr (Or.inl HUV.out.1))⟩;have HGE:Hid (val us2<val vs2):=by unfold Hid;omega
            clear hge hG2 hval2
            go_wp2_with fail
            refine (refCompare_rd ou2.rd ov2.rd (Nat.le_refl _) (by omega) (by omega)).mono ?_;rintro e w3 ⟨rfl,b3⟩;rw [hcm];clear hcm;have s3:=b3.size;have ou3:=ou2.below b3 (Nat.le_refl _);have ov3:=ov2.below b3 (Nat.le_refl _)
            go_wp2_with fail
            refine (refMinus_any ov3.rd (Nat.le_refl _) ou3.rd (Nat.le_refl _) (by omega) (by omega)).mono ?_;rintro e w4 ⟨bl4,hmin⟩;rw [if_neg (by have:=HGE.out;omega)] at hmin;obtain ⟨z1,a4,c4,cz1,vz1,rfl,o4⟩:=hmin;have s4:=bl4.size;have ou4:=ou3.below bl4 (Nat.le_refl _);rw [← vz1] at HG3;have HZ1:Hid (val z1=val vs2 - val us2):=vz1;clear vz1;have l1:z1.length≤vs2.length:=len_of_lt cz1 (by have:=HZ1.out;have:=HP.out;omega);go_wp2
            go_roundg (val us2+val z1).toNat
            case measure=>have:=hg2.out;have:=HZ1.out;have:=HP.out;omega
            case rel=>exact ⟨us2,z1,_,c2,a4,c4,rfl,cu2,cz1,HG3,lu2,by omega,rfl,rfl,ou4,o4.mono (by omega),hbl2.trans ((b3.mono hs2).trans (bl4.mono (by omega)))⟩
theorem refGcd_any {Lb k M:Nat} {vs:List Value} {xss:List (List Int)} {w:World} (hm:Many w Lb k vs xss) (hk:k≤1000) (hM:M≤100000) (hs:∀ j,j<k→(xss.getD j []).length≤M) :
    Calls Tryz.prog 60 #[.slice (some ⟨Lb,0,none⟩) k k] w fun e w'=>∃ zs,can zs∧val zs=gcdV xss∧Makes w e w' zs:=by
 go_enter Tryz.func60,Tryz.ntmps60;go_wp2
 go_loopw [3,4] (fun s ii wr=>∃ (i:Nat) (zs:List Int) (a:Option Addr) (c:Nat),i≤k∧ii=.int .i64 i∧can zs∧Hid (val zs=gcdV (xss.take i))∧zs.length≤M+i∧s=.slice a zs.length c∧Own w.heap.size wr (.slice a zs.length c) zs∧Below w.heap.size w wr)
  (fun _ ii _=>k - (intOf ii).toNat)
 case atStart=>exact ⟨0,[],none,0,Nat.zero_le _,rfl,can_nil,rfl,by simp,rfl,own_nil _ _,Below.refl _ _⟩
 case round=>
  obtain ⟨i,zs,a,c,hik,rfl,hcan,hval,hlen,rfl,hown,hbl⟩:=hrel;by_cases hlt:i<k
  · have hcell:wr.cell? ⟨Lb,i,none⟩=some (vs.getD i (.bool false)):=(hbl.cell hm.lt).trans (hm.cell i hlt)
    have hrd:Rd w.heap.size wr (vs.getD i (.bool false)) (xss.getD i []):=(hm.rd i hlt).below hbl;have hsz:=hbl.size;have hl:=hs i hlt;have HE:Hid (gcdV (xss.take (i+1))=gI (gcdV (xss.take i)) (val (xss.getD i []))):=gcdV_succ xss i (by rw [hm.lx];exact hlt);generalize hV:vs.getD i (.bool false)=V at *;generalize xss.getD i []=ys at *;clear hV
    go_wp2_with fail
    refine (refgcd_any hown.rd (Nat.le_refl _) hrd hsz (M+i) hlen (by omega) (by omega)).mono ?_;rintro e w2 ⟨us,cu,vu,lu,a3,c3,rfl,ho3,hb3⟩;have HU:Hid (val us=gcdV (xss.take (i+1))):=by unfold Hid;rw [HE.out,vu,hval.out]
    clear vu;go_wp2
    go_roundw
    case rel=>exact ⟨i+1,us,a3,c3,by omega,by go_num,cu,HU,by omega,rfl,ho3.mono hsz,hbl.trans (hb3.mono hsz)⟩
    case measure=>simp [intOf];omega
  · obtain rfl:i=k:=by omega
    go_wp2
    go_ret
    exact ⟨zs,hcan,by rw [hval.out,← hm.lx,List.take_length],a,c,rfl,hown,hbl⟩
def DivSpec (A B:Int) (qs rs:List Int) (b:Bool):Prop:=(B=0∧qs=[]∧rs=[]∧b=false)∨(0<B∧b=true∧can qs∧can rs∧A=val qs*B+val rs∧val rs<B)
def Divs (w:World) (A B:Int) (e:Ending) (w':World):Prop:=
 ∃ qs rs a c a2 c2 b,e=.returned (.tuple #[.slice a qs.length c,.slice a2 rs.length c2,.bool b])∧Own w.heap.size w' (.slice a qs.length c) qs∧Own w.heap.size w' (.slice a2 rs.length c2) rs∧Hid (DivSpec A B qs rs b)∧Below w.heap.size w w'
theorem divMod_form {B1 B2:Nat} {w:World} {v1 v2:Value} {xs ys:List Int} (h1:Rd B1 w v1 xs) (hB1:B1≤w.heap.size) (h2:Rd B2 w v2 ys) (hB2:B2≤w.heap.size) (hn:xs.length≤1000000) (hm:ys.length≤1000000) :
    Calls Tryz.prog 153 #[v1,v2] w fun e w'=>Divs w (val xs) (val ys) e w':=by
 by_cases h0:val ys=0
 · refine (divMod_zero h2 h0).mono ?_
   rintro e w' ⟨rfl,rfl⟩;exact ⟨[],[],none,0,none,0,false,rfl,own_nil _ _,own_nil _ _,Or.inl ⟨h0,rfl,rfl,rfl⟩,Below.refl _ _⟩
 · refine (divMod_any h1 hB1 h2 hB2 h0 (by omega) (by omega)).mono ?_
   rintro e w' ⟨qs,rs,a,c,a2,c2,rfl,oq,or,cq,cr,hv,hl,_,_,hb⟩;exact ⟨qs,rs,a,c,a2,c2,true,rfl,oq,or,Or.inr ⟨by have:=(val_bound h2.lim).1;omega,rfl,cq,cr,hv,hl⟩,hb⟩
theorem refDivMod_form {B1 B2:Nat} {w:World} {v1 v2:Value} {xs ys:List Int} (h1:Rd B1 w v1 xs) (hB1:B1≤w.heap.size) (h2:Rd B2 w v2 ys) (hB2:B2≤w.heap.size) (hn:xs.length≤1000000) (hm:ys.length≤1000000) :
    Calls Tryz.prog 66 #[v1,v2] w fun e w'=>Divs w (val xs) (val ys) e w':=by
 by_cases h0:val ys=0
 · refine (refDivMod_zero h2 hm h0).mono ?_
   rintro e w' ⟨rfl,hb⟩;exact ⟨[],[],none,0,none,0,false,rfl,own_nil _ _,own_nil _ _,Or.inl ⟨h0,rfl,rfl,rfl⟩,hb⟩
 · refine (refDivMod_any h1 hB1 h2 hB2 hn hm h0).mono ?_
   rintro e w' ⟨qs,rs,a,c,a2,c2,rfl,oq,or,cq,cr,hv,hl,hb⟩;exact ⟨qs,rs,a,c,a2,c2,true,rfl,oq,or,Or.inr ⟨by have:=(val_bound h2.lim).1;omega,rfl,cq,cr,hv,hl⟩,hb⟩
theorem refOne_any (w:World):Calls Tryz.prog 61 #[] w fun e w'=>∃ ds a c,Hid (ds=[(1:Int)])∧e=.returned (.slice a ds.length c)∧Own w.heap.size w' (.slice a ds.length c) ds∧Below w.heap.size w w':=by
 have hO:Own w.heap.size (w.alloc (.cells #[.int .u32 1] 100)) (.slice (some ⟨w.heap.size,0,none⟩) 1 1) [1]:=⟨can_one.1,World.ownsRow_lit w #[.int .u32 1] 1 (Nat.le_refl _) (by unfold maxLen;omega) rfl⟩;go_enter Tryz.func61,Tryz.ntmps61;go_wp2
 go_ret
 exact ⟨[1],some ⟨w.heap.size,0,none⟩,1,rfl,rfl,hO,below_alloc _ _⟩
theorem cmpI_zero' {a b:Int}:cmpI a b=0↔a=b:=by
 unfold cmpI
 split
 · omega
 · split <;> omega
theorem one_val':val [(1:Int)]=1:=by decide
theorem gcdV_two (x y:List Int) (hx:0≤val x):gcdV [x,y]=gI (val x) (val y):=by
 simp only [gcdV,List.foldl];rw [gI_zero_left _ hx]
theorem gI_len {g us vs:List Int} (cg:can g) (cv:can vs) (vg:val g=gI (val us) (val vs)) (hu:0≤val us) (hv:0<val vs):g.length≤vs.length:=by
 have hgp:0<val g:=by rw [vg];exact gI_pos _ _ hu hv
 obtain ⟨_,⟨k2,hk2,_⟩⟩:=gI_dvd (val us) (val vs) hu (Int.le_of_lt hv);rw [← vg] at hk2;rw [can_len_pw cg];have h5:val g≤val vs:=by
  rcases Int.lt_or_le 0 k2 with h7 | h7
  · have:=Int.mul_le_mul_of_nonneg_right (show (1:Int)≤k2 by omega) (Int.le_of_lt hgp)
    omega
  · have:k2*val g≤0:=Int.mul_nonpos_of_nonpos_of_nonneg h7 (Int.le_of_lt hgp)
    omega
 have h6:=(can_len_pw cv vs.length).1 (Nat.le_refl _);omega
theorem refRight_rat {w:World} {b:Bool} {a1 a2:Option Addr} {c1 c2:Nat} {ns ds:List Int} (h1:Rd w.heap.size w (.slice a1 ns.length c1) ns) (h2:Rd w.heap.size w (.slice a2 ds.length c2) ds) :
    Calls Tryz.prog 13 #[.agg #[.bool b,.slice a1 ns.length c1,.slice a2 ds.length c2]] w fun e w'=>TellsP (RightP b ns ds) e∧Below w.heap.size w w':=by
 have X:=nvar_new (b:=b) h1 h2;have g:=below_alloc w (.cells #[.bool b,.slice a1 ns.length c1,.slice a2 ds.length c2] 24);have c1i:=rightB_can h1.lim;have c2i:=rightB_can h2.lim;have n0:=(val_bound h1.lim).1;obtain ⟨x0,x1,x2⟩:=X.cells;go_enter Tryz.func13,Tryz.ntmps13
 go_wp2_with fail
 generalize hA:w.alloc (.cells #[.bool b,.slice a1 ns.length c1,.slice a2 ds.length c2] 24)=v at *;clear hA;refine (refRight_any X.rn).mono ?_;rintro e w' ⟨rfl,rfl⟩
 cases hr1:rightB ns with
 | false=>
  have HX:Hid (¬ can ns):=by intro h;rw [c1i.2 h] at hr1;cases hr1
  clear c1i c2i hr1;go_wp2
  go_ret
  exact ⟨TellsP.no (fun h=>HX.out h.2.2.1),g⟩
 | true=>
  have H1:Hid (can ns):=c1i.1 hr1;clear c1i hr1
  go_wp2_with fail
  refine (refRight_any X.rd).mono ?_;rintro e w' ⟨rfl,rfl⟩
  cases hr2:rightB ds with
  | false=>
   have HX:Hid (¬ can ds):=by intro h;rw [c2i.2 h] at hr2;cases hr2
   clear c2i hr2;go_wp2
   go_ret
   exact ⟨TellsP.no (fun h=>HX.out h.2.2.2.1),g⟩
  | true=>
   have H2:Hid (can ds):=c2i.1 hr2;clear c2i hr2;by_cases hd0:0<ds.length
   · have hdb:((ds.length:Int)==0)=false:=by rw [beq_eq_false_iff_ne];omega
     by_cases q1:32<ns.length
     · go_wp2
       go_ret
       exact ⟨TellsP.no (fun h=>by have:=h.1;omega),g⟩
     by_cases q2:32<ds.length
     · go_wp2
       go_ret
       exact ⟨TellsP.no (fun h=>by have:=h.2.1;omega),g⟩
     by_cases hbz:b=true∧ns.length=0
     · obtain ⟨rfl,hz⟩:=hbz
       have hz':¬ 0<ns.length:=by omega
       have HX:Hid (¬ RightP true ns ds):=fun h=>h.2.2.2.2.1 ⟨rfl,hz⟩;have hzb:((ns.length:Int)==0)=true:=by rw [hz];rfl
       clear hz;go_wp2
       go_ret
       exact ⟨TellsP.no HX.out,g⟩
     · have HB:Hid (¬ (b=true∧ns.length=0)):=hbz
       have hcs:(((ns.length:Int)==0)=true∧b=false)∨((ns.length:Int)==0)=false:=by
        cases hh:((ns.length:Int)==0) with
        | false=>exact Or.inr rfl
        | true=>
         refine Or.inl ⟨rfl,?_⟩;rw [beq_iff_eq] at hh
         cases b with
         | false=>rfl
         | true=>exact absurd ⟨rfl,by omega⟩ hbz
       clear hbz;rcases hcs with ⟨hnb,rfl⟩ | hnb
       all_goals
        have hm:=many2 X.rn X.rd (Nat.le_refl _) (Nat.le_refl _)
        go_wp2_with fail
        refine (refGcd_any (M:=32) hm (by omega) (by omega) (fun j hj=>by match j,hj with | 0,_=>exact Nat.le_of_not_lt q1 | 1,_=>exact Nat.le_of_not_lt q2)).mono ?_
        rintro e wa ⟨zs,cz,vz,hmk⟩;obtain ⟨a3,c3,rfl,o3,ka⟩:=Makes.alloc (w:=v) hmk;clear hmk hm;have HZ:Hid (val zs=gI (val ns) (val ds)):=by unfold Hid;rw [vz];exact gcdV_two ns ds n0
        clear vz;have g1:Below w.heap.size w wa:=g.trans (ka.mono g.size);have lz:zs.length≤ds.length:=gI_len cz H2.out HZ.out n0 (by have h5:=can_low H2.out hd0;have h6:=pw_pos (ds.length - 1);omega)
        go_wp2_with fail
        refine (refOne_any _).mono ?_;rintro e wb ⟨os,a4,c4,HO,rfl,o4,kb⟩;have g2:Below w.heap.size w wb:=g1.trans (kb.mono g1.size);have lo:os.length≤1:=by rw [HO.out];exact Nat.le_refl _
        go_wp2_with fail
        refine (refCompare_rd (o3.below kb (Nat.le_refl _)).rd o4.rd (Nat.le_refl _) (by clear n0;omega) (by clear n0;omega)).mono ?_;rintro e wc ⟨rfl,kc⟩;have g3:Below w.heap.size w wc:=g2.trans (kc.mono g2.size);have HV:Hid (val os=1):=by unfold Hid;rw [HO.out];exact one_val'
        rw [HV.out];by_cases hz:val zs=1
        · have HG:Hid (gI (val ns) (val ds)=1):=by unfold Hid;rw [← HZ.out];exact hz
          rw [cmpI_eq hz];clear hz;go_wp2
          go_ret
          exact ⟨TellsP.yes ⟨by omega,by omega,H1.out,H2.out,(by first | exact HB.out | (have h5:=HB.out;simpa using h5)),hd0,HG.out⟩,g3⟩
        · have HG:Hid (¬ gI (val ns) (val ds)=1):=by unfold Hid;rw [← HZ.out];exact hz
          have hcb:(cmpI (val zs) 1==0)=false:=by
           rw [beq_eq_false_iff_ne];intro h5;exact hz (cmpI_zero'.1 h5)
          clear hz;go_wp2
          go_ret
          exact ⟨TellsP.no (fun h=>HG.out h.2.2.2.2.2.2),g3⟩
   · have hdb:((ds.length:Int)==0)=true:=by rw [beq_iff_eq];omega
     go_wp2
     go_ret
     exact ⟨TellsP.no (fun h=>hd0 h.2.2.2.2.2.1),g⟩
theorem right_signed {b:Bool} {ns ds:List Int} {N D:Int} (cn:can ns) (cd:can ds) (hd:0<ds.length) (hg:gI (val ns) (val ds)=1) (hv:sg b (val ns)*D=N*val ds) (l1:¬ 32<ns.length) (l2:¬ 32<ds.length):RightP (b && decide (0<ns.length)) ns ds∧sg (b && decide (0<ns.length)) (val ns)*D=N*val ds:=by
 refine ⟨⟨by omega,by omega,cn,cd,?_,hd,hg⟩,?_⟩
 · rintro ⟨hx,hz⟩
   rw [decide_eq_false (by omega)] at hx;simp at hx
 · by_cases h0:0<ns.length
   · rw [decide_eq_true h0,Bool.and_true];exact hv
   · have hz:=(can_zero cn).1 (by omega)
     rw [hz,sg_zero] at hv;rw [hz,sg_zero];exact hv
theorem refMake_rat {w:World} {b:Bool} {a1 a2:Option Addr} {c1 c2:Nat} {xs ys:List Int} (h1:Rd w.heap.size w (.slice a1 xs.length c1) xs) (h2:Rd w.heap.size w (.slice a2 ys.length c2) ys) (n1:xs.length≤10000) (n2:ys.length≤10000) (hy:0<val ys) :
    Calls Tryz.prog 64 #[.bool b,.slice a1 xs.length c1,.slice a2 ys.length c2] w fun e w'=>RMakes w (sg b (val xs)) (val ys) e w':=by
 have cu:=tr_can h1.lim;have cv:=tr_can h2.lim;have lu:=tr_length_le xs;have lv:=tr_length_le ys;have hvl:¬ (tr ys).length=0:=by rw [can_zero cv,val_tr];omega
 have HV:Hid (val (tr xs)=val xs∧val (tr ys)=val ys∧0<val ys∧0≤val xs):=⟨val_tr xs,val_tr ys,hy,(val_bound h1.lim).1⟩;clear hy;have R:=box3_new w (.bool false) (.slice none 0 0) (.slice none 0 0) 24;have b0:=below_alloc w (.cells #[.bool false,.slice none 0 0,.slice none 0 0] 24);have s0:w.heap.size<(w.alloc (.cells #[.bool false,.slice none 0 0,.slice none 0 0] 24)).heap.size:=by simp
 replace h1:=(h1.below b0).mono b0.size;replace h2:=(h2.below b0).mono b0.size;go_enter Tryz.func64,Tryz.ntmps64
 go_wp2_with fail
 generalize hA:w.alloc (.cells #[.bool false,.slice none 0 0,.slice none 0 0] 24)=wR at *;clear hA;refine (refTrim_rd h1 (by omega)).mono ?_;rintro e wa ⟨a3,c3,rfl,o3,ba⟩
 go_wp2_with fail
 refine (refTrim_rd ((h2.below ba).mono ba.size) (by omega)).mono ?_;rintro e wb ⟨a4,c4,rfl,o4,bb⟩;have bw:Below wR.heap.size wR wb:=ba.trans (bb.mono ba.size);have o1:Own wR.heap.size wb (.slice a3 (tr xs).length c3) (tr xs):=o3.below bb (Nat.le_refl _);have o2:Own wR.heap.size wb (.slice a4 (tr ys).length c4) (tr ys):=o4.mono ba.size;clear o3 o4 h1 h2;generalize tr xs=us at *;generalize tr ys=vs at *;have hvp:0<vs.length:=by omega
 have hvb:((vs.length:Int)==0)=false:=by rw [beq_eq_false_iff_ne];omega
 clear hvl;have hm:=many2 o1.rd o2.rd (Nat.le_refl _) (Nat.le_refl _)
 go_wp2_with fail
 refine (refGcd_any (M:=10000) hm (by omega) (by omega) (fun j hj=>by match j,hj with | 0,_=>exact Nat.le_trans lu n1 | 1,_=>exact Nat.le_trans lv n2)).mono ?_
 rintro e wg ⟨g,cg,vg,hmk⟩;obtain ⟨ag,qg,rfl,og,bg⟩:=Makes.alloc (w:=wb) hmk;clear hmk hm;rw [gcdV_two us vs (by have:=HV.out;omega)] at vg;have hgp:0<val g:=by rw [vg];exact gI_pos _ _ (by have:=HV.out;omega) (by have:=HV.out;omega)
 obtain ⟨⟨k1,hk1,_⟩,⟨k2,hk2,hk20⟩⟩:=gI_dvd (val us) (val vs) (by have:=HV.out;omega) (by have:=HV.out;omega);have lg:g.length≤10000:=Nat.le_trans (gI_len cg cv vg (by have:=HV.out;omega) (by have:=HV.out;omega)) (Nat.le_trans lv n2);rw [← vg] at hk1 hk2;have HG:Hid (val g=gI (val us) (val vs)∧val us=k1*val g∧val vs=k2*val g∧0<val g):=⟨vg,hk1,hk2,hgp⟩;clear vg hk1 hk2 hk20 hgp;have bwg:Below wR.heap.size wR wg:=bw.trans (bg.mono bw.size);have o1g:=o1.below bg (Nat.le_refl _);have o2g:=o2.below bg (Nat.le_refl _)
 go_wp2_with fail
 refine (refDivMod_form o1g.rd (Nat.le_refl _) og.rd (Nat.le_refl _) (by omega) (by omega)).mono ?_;rintro e wh ⟨qs,rs,a5,c5,a6,c6,bq,rfl,oq,or,HQ0,bh⟩;have HQ:Hid (bq=true∧can qs∧val us=val qs*val g):=by
  rcases HQ0.out with ⟨h5,_⟩ | ⟨_,hb5,cq,cr,hv5,hl5⟩
  · have:=HG.out.2.2.2;omega
  · have hr0:=rest_zero _ _ _ _ k1 hv5 (val_bound cr.1).1 hl5 HG.out.2.1
    exact ⟨hb5,cq,by rw [hv5,hr0,Int.add_zero]⟩
 clear HQ0;have bwh:Below wR.heap.size wR wh:=bwg.trans (bh.mono bwg.size);have o2h:=o2g.below bh (Nat.le_refl _);have ogh:=og.below bh (Nat.le_refl _)
 go_wp2_with fail
 refine (refDivMod_form o2h.rd (Nat.le_refl _) ogh.rd (Nat.le_refl _) (by omega) (by omega)).mono ?_;rintro e wi ⟨ts,us2,a7,c7,a8,c8,bt,rfl,ot,ou,HT0,bi⟩;have HT:Hid (bt=true∧can ts∧val vs=val ts*val g):=by
  rcases HT0.out with ⟨h5,_⟩ | ⟨_,hb5,cq,cr,hv5,hl5⟩
  · have:=HG.out.2.2.2;omega
  · have hr0:=rest_zero _ _ _ _ k2 hv5 (val_bound cr.1).1 hl5 HG.out.2.2.1
    exact ⟨hb5,cq,by rw [hv5,hr0,Int.add_zero]⟩
 clear HT0;have bwi:Below wR.heap.size wR wi:=bwh.trans (bi.mono bwh.size);have oq2:Own wR.heap.size wi (.slice a5 qs.length c5) qs:=(oq.below bi (Nat.le_refl _)).mono bwg.size;have ot2:Own wR.heap.size wi (.slice a7 ts.length c7) ts:=ot.mono bwh.size;have HF:Hid (can qs∧can ts∧0<ts.length∧gI (val qs) (val ts)=1∧sg b (val qs)*val ys=sg b (val xs)*val ts):=by
  have h3:=HV.out;have cq:=HQ.out.2.1;have ct:=HT.out.2.1;have hqn:=(val_bound cq.1).1;have htn:=(val_bound ct.1).1;have hgg:=gI_rest (val us) (val vs) (val qs) (val ts) (by omega) (by omega) hqn htn (by rw [← HG.out.1];exact HQ.out.2.2) (by rw [← HG.out.1];exact HT.out.2.2);refine ⟨cq,ct,?_,hgg,?_⟩
  · by_cases h0:ts.length=0
    · have:=(can_zero ct).1 h0
      have h4:=HT.out.2.2;rw [this,Int.zero_mul] at h4;omega
    · omega
  · rw [← h3.1,← h3.2.1,HQ.out.2.2,HT.out.2.2,sg_mul]
    simp only [Int.mul_assoc,Int.mul_comm,Int.mul_left_comm]
 have hR2:=R.below bwi s0;have q0:=hR2.c0;have q1:=hR2.c1;have q2:=hR2.c2;have p0:=hR2.f0;have p1:=hR2.f1;have p2:=hR2.f2;clear HQ HT;have hcs:(32<qs.length∨(¬ 32<qs.length∧32<ts.length))∨(¬ 32<qs.length∧¬ 32<ts.length):=by omega
 rcases hcs with hbig | ⟨l1,l2⟩
 · have HB:Hid (Big (sg b (val xs)) (val ys)):=⟨b,qs,ts,HF.out.1,HF.out.2.1,HF.out.2.2.1,HF.out.2.2.2.1,HF.out.2.2.2.2,by omega⟩
   rcases hbig with hbig | ⟨hbig,hbig2⟩
   all_goals
    go_wp2
    have hR3:=hR2.set (.bool false) (.slice none 0 0) (.slice none 0 0);have r0:=hR3.c0;have r1:=hR3.c1;have r2:=hR3.c2;refine bodyPost_ret (v:=.tuple #[.agg #[.bool false,.slice none 0 0,.slice none 0 0],.int .i64 8]) (by simp [results,Tryz.results64,go_sem,r0,r1,r2]) rfl ?_;exact rmakes_none b0 s0 bwi HB.out _ _ _
 · have HR:=right_signed HF.out.1 HF.out.2.1 HF.out.2.2.1 HF.out.2.2.2.1 HF.out.2.2.2.2 l1 l2
   have HRh:Hid (RightP (b && decide (0<qs.length)) qs ts∧sg (b && decide (0<qs.length)) (val qs)*val ys=sg b (val xs)*val ts):=HR;clear HR;have hcs:(b=false)∨(b=true∧0<qs.length)∨(b=true∧¬ 0<qs.length):=by
    cases b with
    | false=>exact Or.inl rfl
    | true=>exact Or.inr (by by_cases h:0<qs.length;exact Or.inl ⟨rfl,h⟩;exact Or.inr ⟨rfl,h⟩)
   rcases hcs with rfl | ⟨rfl,h0⟩ | ⟨rfl,h0⟩
   · go_wp2
     have hR3:=hR2.set (.bool false) (.slice a5 qs.length c5) (.slice a7 ts.length c7);have r0:=hR3.c0;have r1:=hR3.c1;have r2:=hR3.c2;refine bodyPost_ret (v:=.tuple #[.agg #[.bool false,.slice a5 qs.length c5,.slice a7 ts.length c7],.int .i64 0]) (by simp [results,Tryz.results64,go_sem,r0,r1,r2]) rfl ?_;exact rmakes_done b0 s0 bwi oq2 ot2 HRh.out.1 HRh.out.2
   · have e:=HRh.out
     rw [decide_eq_true h0] at e;have HE:Hid (RightP true qs ts∧sg true (val qs)*val ys=sg true (val xs)*val ts):=e;clear e HRh;go_wp2
     have hR3:=hR2.set (.bool true) (.slice a5 qs.length c5) (.slice a7 ts.length c7);have r0:=hR3.c0;have r1:=hR3.c1;have r2:=hR3.c2;refine bodyPost_ret (v:=.tuple #[.agg #[.bool true,.slice a5 qs.length c5,.slice a7 ts.length c7],.int .i64 0]) (by simp [results,Tryz.results64,go_sem,r0,r1,r2]) rfl ?_;exact rmakes_done b0 s0 bwi oq2 ot2 HE.out.1 HE.out.2
   · have e:=HRh.out
     rw [decide_eq_false h0] at e;have HE:Hid (RightP false qs ts∧sg false (val qs)*val ys=sg true (val xs)*val ts):=e;clear e HRh;go_wp2
     have hR3:=hR2.set (.bool false) (.slice a5 qs.length c5) (.slice a7 ts.length c7);have r0:=hR3.c0;have r1:=hR3.c1;have r2:=hR3.c2;refine bodyPost_ret (v:=.tuple #[.agg #[.bool false,.slice a5 qs.length c5,.slice a7 ts.length c7],.int .i64 0]) (by simp [results,Tryz.results64,go_sem,r0,r1,r2]) rfl ?_;exact rmakes_done b0 s0 bwi oq2 ot2 HE.out.1 HE.out.2
/-- What is made of N by D: an error, or the number. -/
def MakeSpec (N D:Int) (b:Bool) (ns ds:List Int) (err:Int):Prop:=
 (D=0∧err=22∧b=false∧ns=[]∧ds=[])∨(0<D∧err=8∧b=false∧ns=[]∧ds=[]∧Big N D)∨(0<D∧err=0∧RightP b ns ds∧sg b (val ns)*D=N*val ds)
/-- A number with an error is answered. -/
def RAns (w:World) (b:Bool) (ns ds:List Int) (err:Int) (e:Ending) (w':World):Prop:=
 Below w.heap.size w w'∧∃ a1 c1 a2 c2,e=.returned (.tuple #[.agg #[.bool b,.slice a1 ns.length c1,.slice a2 ds.length c2],.int .i64 err])∧Rd w'.heap.size w' (.slice a1 ns.length c1) ns∧Rd w'.heap.size w' (.slice a2 ds.length c2) ds
theorem RMakes.spec {w w':World} {N D:Int} {e:Ending} (h:RMakes w N D e w') (hD:0<D):∃ b ns ds err,Hid (MakeSpec N D b ns ds err)∧RAns w b ns ds err e w':=by
 obtain ⟨hb,⟨rfl,hbig⟩ | ⟨b,ns,ds,a1,c1,a2,c2,rfl,on,od,hr,hv⟩⟩:=h
 · exact ⟨false,[],[],8,Or.inr (Or.inl ⟨hD,rfl,rfl,rfl,rfl,hbig⟩),hb,none,0,none,0,rfl,nil_rd _,nil_rd _⟩
 · exact ⟨b,ns,ds,0,Or.inr (Or.inr ⟨hD,rfl,hr,hv⟩),hb,a1,c1,a2,c2,rfl,on.rd,od.rd⟩
section
variable {w:World} {b:Bool} {a1 a2 a3 a4:Option Addr} {c1 c2 c3 c4:Nat} {xs ys ns ds:List Int}
end
end Go.Proofs.YtilbfkabfgnhpaaGreat
