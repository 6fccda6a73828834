/- Two numbers come in, a number goes out: the variables. rat.Sub, rat.Sign. -/
import Derived.Test.YtimfnalpmmkndaaGreatDoorJ4
import Derived.Test.YtimfnalpmmkndaaGreatDoorJ5
set_option linter.unusedVariables false
set_option linter.unusedSimpArgs false
namespace Go.Proofs.YtimfnalpmmkndaaGreatDoor
open Go.RowKit
variable {b:Bool} {ns ds:List Int} {N D:Int}
section
variable {B:Nat} {w:World} {bx cy:Bool} {a1 a2 a3 a4:Option Addr} {c1 c2 c3 c4:Nat} {xn xd yn yd:List Int}
end
theorem lowest_can {c:Bool} {ms es:List Int} (cn:can ns) (cd:can ds) (hd:0<ds.length) (hg:gI (val ns) (val ds)=1) (h:sg b (val ns)*D=N*val ds) (hD:0<D) (cm:can ms) (ce:can es) (he:0<es.length) (kg:gI (val ms) (val es)=1) (k:sg c (val ms)*D=N*val es):ns=ms∧ds=es∧(0<val ns→b=c):=by
 have dp:0<val ds:=by have:=can_low cd hd;have:=pw_pos (ds.length - 1);omega
 have ep:0<val es:=by have:=can_low ce he;have:=pw_pos (es.length - 1);omega
 have np:=(val_bound cn.1).1;have mp:=(val_bound cm.1).1;have e1:sg b (val ns)*val es=sg c (val ms)*val ds:=by
  refine cancel hD ?_;have q1:sg b (val ns)*val es*D=sg b (val ns)*D*val es:=by ac_rfl
  have q2:sg c (val ms)*val ds*D=sg c (val ms)*D*val ds:=by ac_rfl
  rw [q1,q2,h,k]
  ac_rfl
 rw [← sg_mul,← sg_mul] at e1;have n1:0≤val ns*val es:=Int.mul_nonneg np (by omega);have n2:0≤val ms*val ds:=Int.mul_nonneg mp (by omega);have hab:val ns*val es=val ms*val ds∧(0<val ns*val es→b=c):=by
  unfold sg at e1;generalize val ns*val es=p at *;generalize val ms*val ds=q at *
  cases b <;> cases c <;> simp at e1
  · exact ⟨e1,fun _=>rfl⟩
  · exact ⟨by omega,fun _=>by omega⟩
  · exact ⟨by omega,fun _=>by omega⟩
  · exact ⟨by omega,fun _=>rfl⟩
 obtain ⟨n,en⟩:=Int.eq_ofNat_of_zero_le np;obtain ⟨d,ed⟩:=Int.eq_ofNat_of_zero_le (Int.le_of_lt dp);obtain ⟨m,em⟩:=Int.eq_ofNat_of_zero_le mp;obtain ⟨f,ef⟩:=Int.eq_ofNat_of_zero_le (Int.le_of_lt ep);have g1:Nat.gcd n d=1:=by
  rw [en,ed] at hg;unfold gI at hg;simp only [Int.toNat_natCast] at hg;omega
 have g2:Nat.gcd m f=1:=by
  rw [em,ef] at kg;unfold gI at kg;simp only [Int.toNat_natCast] at kg;omega
 have hm:=hab.1;rw [en,ed,em,ef] at hm;have hmn:n*f=m*d:=by exact_mod_cast hm
 have d1:d ∣ f:=(Nat.Coprime.dvd_of_dvd_mul_left (show Nat.Coprime d n by rw [Nat.coprime_comm];exact g1) ⟨m,by rw [hmn,Nat.mul_comm]⟩);have d2:f ∣ d:=(Nat.Coprime.dvd_of_dvd_mul_left (show Nat.Coprime f m by rw [Nat.coprime_comm];exact g2) ⟨n,by rw [← hmn,Nat.mul_comm]⟩);have hdf:d=f:=Nat.dvd_antisymm d1 d2;subst hdf;have hd0:0<d:=by omega
 have hnm:n=m:=Nat.eq_of_mul_eq_mul_right hd0 hmn;exact ⟨can_inj cn cm (by rw [en,em,hnm]),can_inj cd ce (by rw [ed,ef]),fun h0=>hab.2 (Int.mul_pos h0 ep)⟩
theorem not_big (hr:RightP b ns ds) (h:sg b (val ns)*D=N*val ds) (hD:0<D):¬ Big N D:=by
 rintro ⟨c,ms,es,cm,ce,he,kg,k,hl⟩;obtain ⟨rfl,rfl,_⟩:=lowest_can hr.2.2.1 hr.2.2.2.1 hr.2.2.2.2.2.1 hr.2.2.2.2.2.2 h hD cm ce he kg k;have:=hr.1;have:=hr.2.1;omega
theorem right_is {c:Bool} {ms es:List Int} (hr:RightP b ns ds) (h:sg b (val ns)*D=N*val ds) (hD:0<D) (kr:RightP c ms es) (k:sg c (val ms)*D=N*val es):c=b∧ms=ns∧es=ds:=by
 refine lowest kr hr (cancel hD ?_);have q1:sg c (val ms)*val ds*D=sg c (val ms)*D*val ds:=by ac_rfl
 have q2:sg b (val ns)*val es*D=sg b (val ns)*D*val es:=by ac_rfl
 rw [q1,q2,h,k]
 ac_rfl
theorem nil_rd (w:World):Rd w.heap.size w (.slice none ([]:List Int).length 0) []:=Own.rd (base:=0) ⟨lim_nil,World.ownsRow_nil _ _ _ _⟩
section
variable {B:Nat} {w:World} {bx cy:Bool} {a1 a2 a3 a4:Option Addr} {c1 c2 c3 c4:Nat} {xn xd yn yd:List Int}
end
end Go.Proofs.YtimfnalpmmkndaaGreatDoor
