/- rat.fold of two numbers, by rat.plus. -/
import Derived.Test.YtimfnalpmmkndaaGreatDoorJ3
import Derived.Lib.ItoaNum
import Derived.Test.YtimfnalpmmkndaaGreatDoorJ2
set_option linter.unusedVariables false
set_option linter.unusedSimpArgs false
namespace Go.Proofs.YtimfnalpmmkndaaGreatDoor
section
open Go.RowKit
section
variable {B Lb:Nat} {w:World} {bx cy:Bool} {a1 a2 a3 a4:Option Addr} {c1 c2 c3 c4:Nat} {xn xd yn yd:List Int}
end
section
variable {B Lb:Nat} {w:World} {bx cy:Bool} {a1 a2 a3 a4:Option Addr} {c1 c2 c3 c4:Nat} {xn xd yn yd:List Int}
end
section
variable {B:Nat} {w:World} {bx cy:Bool} {a1 a2 a3 a4:Option Addr} {c1 c2 c3 c4:Nat} {xn xd yn yd:List Int}
end
end
section
open Go.Lib
def dval (l:List UInt8):Nat:=l.foldl (fun a b=>a*10+(b.toNat - 48)) 0
def digs (l:List UInt8):Prop:=∀ b∈l,48≤b.toNat∧b.toNat≤57
theorem dval_from (l:List UInt8) (a:Nat):l.foldl (fun a b=>a*10+(b.toNat - 48)) a=a*10 ^ l.length+dval l:=by
 induction l generalizing a with
 | nil=>simp [dval]
 | cons b l ih=>
  unfold dval;simp only [List.foldl_cons,List.length_cons];rw [ih,ih (0*10+(b.toNat - 48)),Nat.pow_succ];simp only [Nat.zero_mul,Nat.zero_add,Nat.add_mul,Nat.mul_assoc,Nat.mul_comm 10];omega
theorem dval_append (k l:List UInt8):dval (k++l)=dval k*10 ^ l.length+dval l:=by
 show (k++l).foldl _ 0=_;rw [List.foldl_append,dval_from];rfl
theorem dval_snoc (l:List UInt8) (b:UInt8):dval (l++[b])=dval l*10+(b.toNat - 48):=by
 rw [dval_append];simp [dval]
end
section
open Go.RowKit
theorem cancel {a b k:Int} (hk:0<k) (h:a*k=b*k):a=b:=Int.eq_of_mul_eq_mul_right (by omega) h
theorem lowest {b c:Bool} {ns ds ms es:List Int} (h:RightP b ns ds) (k:RightP c ms es) (e:sg b (val ns)*val es=sg c (val ms)*val ds):b=c∧ns=ms∧ds=es:=by
 have hp:=right_pos h;have kp:=right_pos k;have hz:∀ {b:Bool} {ns ds:List Int},RightP b ns ds→val ns=0→b=false:=by
  intro b ns ds h hv;have h1:=(can_zero h.2.2.1).2 hv
  cases b with
  | false=>rfl
  | true=>exact absurd ⟨rfl,h1⟩ h.2.2.2.2.1
 have hab:val ns*val es=val ms*val ds∧b=c:=by
  have n1:0≤val ns*val es:=Int.mul_nonneg hp.2 (by omega);have n2:0≤val ms*val ds:=Int.mul_nonneg kp.2 (by omega);rw [← sg_mul,← sg_mul] at e;have zero:val ns*val es=0→val ms*val ds=0→b=c:=by
   intro z1 z2;have y1:val ns=0:=by
    rcases Int.mul_eq_zero.1 z1 with y | y
    · exact y
    · omega
   have y2:val ms=0:=by
    rcases Int.mul_eq_zero.1 z2 with y | y
    · exact y
    · omega
   rw [hz h y1,hz k y2]
  unfold sg at e;generalize val ns*val es=p at *;generalize val ms*val ds=q at *
  cases b <;> cases c <;> simp at e
  · exact ⟨e,rfl⟩
  · have:p=0∧q=0:=by omega
    exact ⟨by omega,zero this.1 this.2⟩
  · have:p=0∧q=0:=by omega
    exact ⟨by omega,zero this.1 this.2⟩
  · exact ⟨by omega,rfl⟩
 obtain ⟨hm,hbc⟩:=hab;obtain ⟨n,en⟩:=Int.eq_ofNat_of_zero_le hp.2;obtain ⟨d,ed⟩:=Int.eq_ofNat_of_zero_le (Int.le_of_lt hp.1);obtain ⟨m,em⟩:=Int.eq_ofNat_of_zero_le kp.2;obtain ⟨f,ef⟩:=Int.eq_ofNat_of_zero_le (Int.le_of_lt kp.1);have g1:Nat.gcd n d=1:=by
  have:=h.2.2.2.2.2.2;rw [en,ed] at this;unfold gI at this;simp only [Int.toNat_natCast] at this;omega
 have g2:Nat.gcd m f=1:=by
  have:=k.2.2.2.2.2.2;rw [em,ef] at this;unfold gI at this;simp only [Int.toNat_natCast] at this;omega
 rw [en,ed,em,ef] at hm;have hmn:n*f=m*d:=by exact_mod_cast hm
 have d1:d ∣ f:=(Nat.Coprime.dvd_of_dvd_mul_left (show Nat.Coprime d n by rw [Nat.coprime_comm];exact g1) ⟨m,by rw [hmn,Nat.mul_comm]⟩);have d2:f ∣ d:=(Nat.Coprime.dvd_of_dvd_mul_left (show Nat.Coprime f m by rw [Nat.coprime_comm];exact g2) ⟨n,by rw [← hmn,Nat.mul_comm]⟩);have hdf:d=f:=Nat.dvd_antisymm d1 d2;subst hdf;have hd0:0<d:=by omega
 have hnm:n=m:=Nat.eq_of_mul_eq_mul_right hd0 hmn;exact ⟨hbc,can_inj h.2.2.1 k.2.2.1 (by rw [en,em,hnm]),can_inj h.2.2.2.1 k.2.2.2.1 (by rw [ed,ef])⟩
structure NVar (w:World) (k:Nat) (b:Bool) (a1:Option Addr) (ns:List Int) (c1:Nat) (a2:Option Addr) (ds:List Int) (c2:Nat):Prop where
 lt:k<w.heap.size
 box:Box3 w k 110 (.bool b) (.slice a1 ns.length c1) (.slice a2 ds.length c2)
 rn:Rd w.heap.size w (.slice a1 ns.length c1) ns
 rd:Rd w.heap.size w (.slice a2 ds.length c2) ds
section
variable {w w':World} {k:Nat} {b:Bool} {a1 a2:Option Addr} {ns ds:List Int} {c1 c2:Nat}
theorem NVar.below (h:NVar w k b a1 ns c1 a2 ds c2) (hb:Below w.heap.size w w'):NVar w' k b a1 ns c1 a2 ds c2:=
 ⟨Nat.lt_of_lt_of_le h.lt hb.size,h.box.below hb h.lt,(h.rn.below hb).mono hb.size,(h.rd.below hb).mono hb.size⟩
theorem NVar.k0 (h:NVar w k b a1 ns c1 a2 ds c2):w.cell? ⟨k,0,none⟩=some (.bool b):=h.box.c0
theorem NVar.k1 (h:NVar w k b a1 ns c1 a2 ds c2):w.cell? ⟨k,1,none⟩=some (.slice a1 ns.length c1):=h.box.c1
theorem NVar.k2 (h:NVar w k b a1 ns c1 a2 ds c2):w.cell? ⟨k,2,none⟩=some (.slice a2 ds.length c2):=h.box.c2
theorem nvar_new (hn:Rd w.heap.size w (.slice a1 ns.length c1) ns) (hd:Rd w.heap.size w (.slice a2 ds.length c2) ds):NVar (w.alloc (.cells #[.bool b,.slice a1 ns.length c1,.slice a2 ds.length c2] 110)) w.heap.size b a1 ns c1 a2 ds c2:=
 ⟨by simp,box3_new _ _ _ _ _,(hn.below (below_alloc _ _)).mono (by simp),(hd.below (below_alloc _ _)).mono (by simp)⟩
end
section
variable {w:World} {bx cy dz:Bool} {a1 a2 a3 a4 a5 a6:Option Addr} {c1 c2 c3 c4 c5 c6:Nat} {xn xd yn yd zn zd:List Int}
end
theorem below_undrew {w w':World} {B:Nat} (h:Below B w.drew w'):Below B w w':=⟨h.os,h.tape,h.output,h.size,h.block⟩
section
variable {w w':World} {k j:Nat} {b:Bool} {a1 a2 a3 a4:Option Addr} {ns ds:List Int} {c1 c2 c3 c4:Nat}
theorem NVar.cells (h:NVar w k b a1 ns c1 a2 ds c2):w.cell? ⟨k,0,none⟩=some (.bool b)∧w.cell? ⟨k,1,none⟩=some (.slice a1 ns.length c1)∧w.cell? ⟨k,2,none⟩=some (.slice a2 ds.length c2):=⟨h.k0,h.k1,h.k2⟩
end
end
end Go.Proofs.YtimfnalpmmkndaaGreatDoor
