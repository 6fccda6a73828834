/- array.copyOf of a number, array.Rat, array.Int. -/
import Derived.Test.YtilbfkabfgnhpaaGreatK7
import Derived.Test.YtilbfkabfgnhpaaGreatJ6
import Derived.Deep.RegionHeld3
import Derived.Test.YtilbfkabfgnhpaaGreatJ4
set_option maxRecDepth 100000
set_option maxHeartbeats 8000000
set_option linter.unusedVariables false
set_option linter.unusedSimpArgs false
namespace Go.Proofs.YtilbfkabfgnhpaaGreat
section
open Go.RowKit
section
variable {w:World} {b:Bool} {a1 a2:Option Addr} {c1 c2:Nat} {ns ds:List Int}
end
/-- In block k lies an item: a number whose limbs are the call's own. -/
def NumAt (base:Nat) (w:World) (k:Nat) (b:Bool) (ns ds:List Int):Prop:=
 base≤k∧∃ x1 y1 x2 y2,BoxA w k 93 #[.int .u8 1,.bool b,.slice x1 ns.length y1,.slice x2 ds.length y2,.int .i32 0,.slice none 0 0]∧Own base w (.slice x1 ns.length y1) ns∧Own base w (.slice x2 ds.length y2) ds
section
variable {w w':World} {base base' B k R:Nat} {b:Bool} {ns ds:List Int}
theorem NumAt.lt (h:NumAt base w k b ns ds):k<w.heap.size:=by
 obtain ⟨_,_,_,_,_,h,_⟩:=h;exact h.lt
theorem NumAt.mono (h:NumAt base w k b ns ds) (hB:base'≤base):NumAt base' w k b ns ds:=by
 obtain ⟨h0,x1,y1,x2,y2,h1,h2,h3⟩:=h;exact ⟨Nat.le_trans hB h0,x1,y1,x2,y2,h1,h2.mono hB,h3.mono hB⟩
theorem BoxA.other {ty:Nat} {xs:Array Value} {p:Addr} (h:BoxA w k ty xs) (hp:p.block≠k) (v:Value):BoxA (w.setCell p v) k ty xs:=by
 unfold BoxA at *;have hne:¬ p.block=k:=hp;simp [World.setCell,Array.getElem?_modify,hne,h]
theorem NumAt.set2 (h:NumAt base w k b ns ds) (hR:R<base) (u v:Value):NumAt base ((w.setCell ⟨R,0,none⟩ u).setCell ⟨R,1,none⟩ v) k b ns ds:=by
 obtain ⟨h0,x1,y1,x2,y2,h1,h2,h3⟩:=h;have hne:R≠k:=by omega
 refine ⟨h0,x1,y1,x2,y2,(h1.other (p:=⟨R,0,none⟩) hne _).other (p:=⟨R,1,none⟩) hne _,?_,?_⟩
 · exact (h2.setCell (a:=⟨R,0,none⟩) (ownBlock_ne h2 hR) _).setCell (a:=⟨R,1,none⟩) (ownBlock_ne h2 hR) _
 · exact (h3.setCell (a:=⟨R,0,none⟩) (ownBlock_ne h3 hR) _).setCell (a:=⟨R,1,none⟩) (ownBlock_ne h3 hR) _
theorem BoxA.set2 {ty:Nat} {u0 u1:Value} (h:BoxA w R ty #[u0,u1]) (u v:Value):BoxA ((w.setCell ⟨R,0,none⟩ u).setCell ⟨R,1,none⟩ v) R ty #[u,v]:=by
 unfold BoxA at h ⊢;simp [World.setCell,Array.getElem?_modify,h]
theorem Below.set2 (h:Below base w w') (hB:base≤R) (u v:Value):Below base w ((w'.setCell ⟨R,0,none⟩ u).setCell ⟨R,1,none⟩ v):=
 (h.setCell (p:=⟨R,0,none⟩) hB _).setCell (p:=⟨R,1,none⟩) hB _
end
/-- A scalar of a number is answered. -/
def ScalarAns (w:World) (b:Bool) (ns ds:List Int) (e:Ending) (w':World):Prop:=
 ∃ k,e=.returned (.agg #[.slice none 0 0,.slice (some ⟨k,0,none⟩) 1 1])∧NumAt w.heap.size w' k b ns ds∧Below w.heap.size w w'
theorem equal_walk (b1 o1 c1 b2 o2 c2 n:Nat) (xs:List Int) (w:World) (hb:n≤9223372036854775807)
    (k1:∀ j,j<n→w.cell? ⟨b1,o1+j,none⟩=some (.int .u32 (xs.getD j 0)))
    (k2:∀ j,j<n→w.cell? ⟨b2,o2+j,none⟩=some (.int .u32 (xs.getD j 0))) :
    Calls Tryz.prog 171 #[.slice (some ⟨b1,o1,none⟩) n c1,.slice (some ⟨b2,o2,none⟩) n c2] w fun e w'=>e=.returned (.bool true)∧∃ q,w'=w.drewN q:=by
 have K1:Hid (∀ j,j<n→w.cell? ⟨b1,o1+j,none⟩=some (.int .u32 (xs.getD j 0))):=k1;have K2:Hid (∀ j,j<n→w.cell? ⟨b2,o2+j,none⟩=some (.int .u32 (xs.getD j 0))):=k2;clear k1 k2;go_enter Tryz.func171,Tryz.ntmps171;go_wp2
 go_loopw [13] (fun s wr=>(∃ q,wr=w.drewN q)∧∃ j:Nat,j≤n∧s=.int .i64 j) (fun s _=>n - (intOf s).toNat)
 case atStart=>exact ⟨⟨0,rfl⟩,0,Nat.zero_le _,rfl⟩
 case round=>
  obtain ⟨⟨q,rfl⟩,j,hj,rfl⟩:=hrel;by_cases hlt:j<n
  · have g1:=K1.out j hlt
    have g2:=K2.out j hlt;generalize xs.getD j 0=p at *;go_wp2
    go_quiet (fail)
    go_wp2
    go_roundw
    case rel=>exact ⟨⟨_,rfl⟩,j+1,by omega,by go_num⟩
    case measure=>simp [intOf];omega
  · go_wp2
    go_ret
    exact ⟨rfl,_,rfl⟩
theorem equal_nil (a1 a2:Option Addr) (c1 c2:Nat) (w:World) :
    Calls Tryz.prog 171 #[.slice a1 0 c1,.slice a2 0 c2] w fun e w'=>e=.returned (.bool true)∧w=w':=by
 go_enter Tryz.func171,Tryz.ntmps171;go_wp2
 go_loopw [13] (fun s wr=>wr=w∧s=.int .i64 0) (fun _ _=>0)
 case atStart=>exact ⟨rfl,rfl⟩
 case round=>
  obtain ⟨rfl,rfl⟩:=hrel;go_wp2
  go_ret
  exact ⟨rfl,rfl⟩
theorem equal_rd {B B':Nat} {w:World} {v1 v2:Value} {xs:List Int} (h1:Rd B w v1 xs) (h2:Rd B' w v2 xs) :
    Calls Tryz.prog 171 #[v1,v2] w fun e w'=>e=.returned (.bool true)∧Below w.heap.size w w':=by
 obtain ⟨_,a1,c1,rfl,i1,j1,_,f1⟩:=h1;obtain ⟨_,a2,c2,rfl,i2,j2,_,f2⟩:=h2;by_cases h0:xs.length=0
 · rw [h0]
   refine (equal_nil a1 a2 c1 c2 w).mono ?_;rintro e w' ⟨rfl,rfl⟩;exact ⟨rfl,Below.refl _ _⟩
 · rcases f1 with f1 | ⟨b1,o1,rfl,_,k1⟩
   · exact absurd f1 h0
   rcases f2 with f2 | ⟨b2,o2,rfl,_,k2⟩
   · exact absurd f2 h0
   refine (equal_walk b1 o1 c1 b2 o2 c2 xs.length xs w (by omega) k1 k2).mono ?_;rintro e w' ⟨rfl,q,rfl⟩;exact ⟨rfl,below_drewN' (Below.refl _ _) q⟩
theorem equal_shape (a1 a2:Option Addr) (c1 c2:Nat) (w:World) :
    Calls Tryz.prog 132 #[.slice a1 0 c1,.slice a2 0 c2] w fun e w'=>e=.returned (.bool true)∧w=w':=by
 go_enter Tryz.func132,Tryz.ntmps132;go_wp2
 go_loopw [13] (fun s wr=>wr=w∧s=.int .i64 0) (fun _ _=>0)
 case atStart=>exact ⟨rfl,rfl⟩
 case round=>
  obtain ⟨rfl,rfl⟩:=hrel;go_wp2
  go_ret
  exact ⟨rfl,rfl⟩
section
variable {w:World} {base k:Nat} {b:Bool} {ns ds:List Int}
end
section
variable {w:World} {b:Bool} {a1 a2:Option Addr} {c1 c2:Nat} {ns ds:List Int}
end
end
section
open Go.RowKit
def okR (c:Int):Prop:=(0≤c∧c<55296)∨(57343<c∧c≤1114111)
/-- Has an item no number? -/
def noneB (t:Tr):Bool:=!t.b && decide (t.ns.length=0) && decide (t.ds.length=0)
/-- Is an array a scalar of a number or a character? -/
def simpB (t:Tr):Bool:=decide (t.ns.length=0) && decide (t.kids.length=1) && (decide ((t.kids.getD 0 tr0).k=1) || decide ((t.kids.getD 0 tr0).k=2))
open Classical in
/-- An item's measure, where M tells that of its array. -/
noncomputable def measI (M:Tr→Option (Int×Int)) (t:Tr):Option (Int×Int):=
 if t.k=1 then (if RightP t.b t.ns t.ds∧t.c=0∧t.kids.length=0 then some (0,0) else none)
 else if t.k=2 then (if okR t.c∧noneB t=true∧t.kids.length=0 then some (0,0) else none)
 else if t.k=3 then (if noneB t=true∧t.c=0∧t.kids.length=1∧simpB (t.kids.getD 0 tr0)=false then M (t.kids.getD 0 tr0) else none)
 else none
def measL (I:Tr→Option (Int×Int)):List Tr→Int×Int→Option (Int×Int)
 | [],w=>some w
 | t :: r,w=>match I t with
  | none=>none
  | some p=>if 16384<w.2+p.2 then none else measL I r (max w.1 (1+p.1),w.2+p.2)
/-- An array's measure, so many levels down. -/
noncomputable def measF:Nat→Tr→Option (Int×Int)
 | 0,_=>none
 | L+1,t=>if (sizeF t.ns).2=0∧(t.kids.length:Int)=max (sizeF t.ns).1 1 then
     (match measL (measI (measF L)) t.kids (1,(t.kids.length:Int)) with
      | none=>none
      | some p=>some (if simpB t=true then 0 else p.1,p.2)) else none
/-- How a measure is told. -/
def mEnd (o:Option (Int×Int)):Ending:=.returned (.tuple #[.agg #[.int .i64 (o.getD (0,0)).1,.int .i64 (o.getD (0,0)).2],.bool o.isSome])
theorem isNone_any (b:Bool) (a1:Option Addr) (n1 c1:Nat) (a2:Option Addr) (n2 c2:Nat) (w:World) (h1:n1≤9223372036854775807) (h2:n2≤9223372036854775807) :
    Calls Tryz.prog 195 #[.agg #[.bool b,.slice a1 n1 c1,.slice a2 n2 c2]] w fun e w'=>e=.returned (.bool (!b && decide (n1=0) && decide (n2=0)))∧w'=w.alloc (.cells #[.bool b,.slice a1 n1 c1,.slice a2 n2 c2] 24):=by
 have X:=boxA_new w #[.bool b,.slice a1 n1 c1,.slice a2 n2 c2] 24;have x0:=X.cell 0 rfl;have x1:=X.cell 1 rfl;have x2:=X.cell 2 rfl;go_enter Tryz.func195,Tryz.ntmps195
 cases b with
 | true=>
  go_wp2
  go_ret
  exact ⟨rfl,rfl⟩
 | false=>
  by_cases e1:n1=0
  · have d1:((n1:Int)==0)=true:=by rw [beq_iff_eq];omega
    by_cases e2:n2=0
    · have d2:((n2:Int)==0)=true:=by rw [beq_iff_eq];omega
      have HQ:Hid ((!false && decide (n1=0) && decide (n2=0))=true):=by unfold Hid;rw [decide_eq_true e1,decide_eq_true e2];rfl
      clear e1 e2;go_wp2
      go_ret
      exact ⟨by rw [HQ.out];rfl,rfl⟩
    · have d2:((n2:Int)==0)=false:=by rw [beq_eq_false_iff_ne];omega
      have HQ:Hid ((!false && decide (n1=0) && decide (n2=0))=false):=by unfold Hid;rw [decide_eq_true e1,decide_eq_false e2];rfl
      clear e1 e2;go_wp2
      go_ret
      exact ⟨by rw [HQ.out];rfl,rfl⟩
  · have d1:((n1:Int)==0)=false:=by rw [beq_eq_false_iff_ne];omega
    have HQ:Hid ((!false && decide (n1=0) && decide (n2=0))=false):=by unfold Hid;rw [decide_eq_false e1];rfl
    clear e1;go_wp2
    go_ret
    exact ⟨by rw [HQ.out];rfl,rfl⟩
theorem isSimpleT_any {D:Nat→Prop} {f:Nat} {W:World} {x1:Option Addr} {n1 y1:Nat} {x2:Option Addr} {n2 y2:Nat} {t:Tr} (h:ArV (f+1) D W (.slice x1 n1 y1) (.slice x2 n2 y2) t) (hD:∀ g,D g→g<W.heap.size) :
    Calls Tryz.prog 170 #[.agg #[.slice x1 n1 y1,.slice x2 n2 y2]] W fun e w'=>e=.returned (.bool (simpB t))∧w'=W.alloc (.cells #[.slice x1 n1 y1,.slice x2 n2 y2] 51):=by
 obtain rfl:=h.1.len;obtain rfl:=h.2.len;have bd1:=h.1.bounds;have bd2:=h.2.bounds;have X:=boxA_new W #[.slice x1 t.ns.length y1,.slice x2 t.kids.length y2] 51;have k:=below_alloc W (.cells #[.slice x1 t.ns.length y1,.slice x2 t.kids.length y2] 51);have p0:=X.cell 0 rfl;have p1:=X.cell 1 rfl;go_enter Tryz.func170,Tryz.ntmps170;by_cases e1:t.ns.length=0
 · have d1:((t.ns.length:Int)==0)=true:=by rw [beq_iff_eq];omega
   by_cases e2:t.kids.length=1
   · have d2:((t.kids.length:Int)==1)=true:=by rw [beq_iff_eq];omega
     obtain ⟨g,o,rfl,hg,hc⟩:=h.2.ptr (by omega);obtain ⟨a1,c1,a2,c2,a3,c3,⟨z0,_⟩,_⟩:=hc 0 (by omega);rw [Nat.zero_mul,Nat.add_zero] at z0;have q0:=(k.cell (p:=⟨g,o,none⟩) (hD g hg)).trans z0;have HQ:Hid (simpB t=(decide ((t.kids.getD 0 tr0).k=1) || decide ((t.kids.getD 0 tr0).k=2))):=by unfold Hid simpB;rw [decide_eq_true e1,decide_eq_true e2];rfl
     have hpos:0<t.kids.length:=by omega
     clear h hc z0 e1 e2;generalize (t.kids.getD 0 tr0).k=K at *;by_cases k1:K=1
     · have d3:(K==1)=true:=by rw [beq_iff_eq];exact k1
       have HR:Hid (simpB t=true):=by unfold Hid;rw [HQ.out,decide_eq_true k1];rfl
       clear k1 HQ;go_wp2
       go_ret
       exact ⟨by rw [HR.out];rfl,rfl⟩
     · have d3:(K==1)=false:=by rw [beq_eq_false_iff_ne];exact k1
       by_cases k2:K=2
       · have d4:(K==2)=true:=by rw [beq_iff_eq];exact k2
         have HR:Hid (simpB t=true):=by unfold Hid;rw [HQ.out,decide_eq_false k1,decide_eq_true k2];rfl
         clear k1 k2 HQ;go_wp2
         go_ret
         exact ⟨by rw [HR.out];rfl,rfl⟩
       · have d4:(K==2)=false:=by rw [beq_eq_false_iff_ne];exact k2
         have HR:Hid (simpB t=false):=by unfold Hid;rw [HQ.out,decide_eq_false k1,decide_eq_false k2];rfl
         clear k1 k2 HQ;go_wp2
         go_ret
         exact ⟨by rw [HR.out];rfl,rfl⟩
   · have d2:((t.kids.length:Int)==1)=false:=by rw [beq_eq_false_iff_ne];omega
     have HR:Hid (simpB t=false):=by unfold Hid simpB;rw [decide_eq_true e1,decide_eq_false e2];rfl
     clear e1 e2;go_wp2
     go_ret
     exact ⟨by rw [HR.out];rfl,rfl⟩
 · have d1:((t.ns.length:Int)==0)=false:=by rw [beq_eq_false_iff_ne];omega
   have HR:Hid (simpB t=false):=by unfold Hid simpB;rw [decide_eq_false e1];rfl
   clear e1;go_wp2
   go_ret
   exact ⟨by rw [HR.out];rfl,rfl⟩
section
variable {M:Tr→Option (Int×Int)} {t:Tr}
theorem measI_num (e1:t.k=1) (h:RightP t.b t.ns t.ds∧t.c=0∧t.kids.length=0):measI M t=some (0,0):=by unfold measI;rw [if_pos e1,if_pos h]
theorem measI_num_no (e1:t.k=1) (h:¬ (RightP t.b t.ns t.ds∧t.c=0∧t.kids.length=0)):measI M t=none:=by unfold measI;rw [if_pos e1,if_neg h]
theorem measI_ch (e1:t.k=2) (h:okR t.c∧noneB t=true∧t.kids.length=0):measI M t=some (0,0):=by unfold measI;rw [if_neg (by omega),if_pos e1,if_pos h]
theorem measI_ch_no (e1:t.k=2) (h:¬ (okR t.c∧noneB t=true∧t.kids.length=0)):measI M t=none:=by unfold measI;rw [if_neg (by omega),if_pos e1,if_neg h]
theorem measI_box (e1:t.k=3) (h:noneB t=true∧t.c=0∧t.kids.length=1∧simpB (t.kids.getD 0 tr0)=false):measI M t=M (t.kids.getD 0 tr0):=by unfold measI;rw [if_neg (by omega),if_neg (by omega),if_pos e1,if_pos h]
theorem measI_box_no (e1:t.k=3) (h:¬ (noneB t=true∧t.c=0∧t.kids.length=1∧simpB (t.kids.getD 0 tr0)=false)):measI M t=none:=by unfold measI;rw [if_neg (by omega),if_neg (by omega),if_pos e1,if_neg h]
theorem measI_else (h1:¬ t.k=1) (h2:¬ t.k=2) (h3:¬ t.k=3):measI M t=none:=by unfold measI;rw [if_neg h1,if_neg h2,if_neg h3]
end
/-- measured tells what it should, so many levels down. -/
def MeasOK (L:Nat):Prop:=∀ (f:Nat) (D:Nat→Prop) (W:World) (x1:Option Addr) (n1 y1:Nat) (x2:Option Addr) (n2 y2:Nat) (t:Tr),(∀ g,D g→g<W.heap.size)→ArV f D W (.slice x1 n1 y1) (.slice x2 n2 y2) t →
 Calls Tryz.prog 139 #[.agg #[.slice x1 n1 y1,.slice x2 n2 y2],.int .i64 L] W fun e w'=>e=mEnd (measF L t)∧Below W.heap.size W w'
def TellsRune (c:Int) (e:Ending):Prop:=∃ r,e=.returned (.bool r)∧(r=true↔okR c)
theorem validRune_any (c:Int) (w:World):Calls Tryz.prog 194 #[.int .i32 c] w fun e w'=>TellsRune c e∧Below w.heap.size w w':=by
 go_enter Tryz.func194,Tryz.ntmps194;by_cases h1:0≤c
 · by_cases h2:c<55296
   · go_wp2
     go_ret
     exact ⟨⟨true,rfl,fun _=>Or.inl ⟨h1,h2⟩,fun _=>rfl⟩,Below.refl _ _⟩
   · by_cases h3:57343<c
     · by_cases h4:c≤1114111
       · go_wp2
         go_ret
         exact ⟨⟨true,rfl,fun _=>Or.inr ⟨h3,h4⟩,fun _=>rfl⟩,Below.refl _ _⟩
       · go_wp2
         go_ret
         exact ⟨⟨false,rfl,(fun h=>by cases h),fun h=>by unfold okR at h;omega⟩,Below.refl _ _⟩
     · go_wp2
       go_ret
       exact ⟨⟨false,rfl,(fun h=>by cases h),fun h=>by unfold okR at h;omega⟩,Below.refl _ _⟩
 · go_wp2
   go_ret
   exact ⟨⟨false,rfl,(fun h=>by cases h),fun h=>by unfold okR at h;omega⟩,Below.refl _ _⟩
end
section
open Go.RowKit
/-- What is told of N by D, where P is asked: an error, or the number. -/
def OutSpec (P:Prop) (N D:Int) (b:Bool) (ns ds:List Int) (err:Int):Prop:=
 (¬ P∧err=22∧b=false∧ns=[]∧ds=[])∨(P∧err=8∧b=false∧ns=[]∧ds=[]∧Big N D)∨(P∧err=0∧RightP b ns ds∧sg b (val ns)*D=N*val ds)
theorem OutSpec.unique {P:Prop} {N D:Int} {b c:Bool} {ns ds ms es:List Int} {e f:Int} (hD:P→0<D) (h:OutSpec P N D b ns ds e) (k:OutSpec P N D c ms es f):c=b∧ms=ns∧es=ds∧f=e:=by
 rcases h with ⟨hp,rfl,rfl,rfl,rfl⟩ | ⟨hp,rfl,rfl,rfl,rfl,hb⟩ | ⟨hp,rfl,hr,hv⟩ <;> rcases k with ⟨kp,rfl,rfl,rfl,rfl⟩ | ⟨kp,rfl,rfl,rfl,rfl,kb⟩ | ⟨kp,rfl,kr,kv⟩
 · exact ⟨rfl,rfl,rfl,rfl⟩
 · exact absurd kp hp
 · exact absurd kp hp
 · exact absurd hp kp
 · exact ⟨rfl,rfl,rfl,rfl⟩
 · exact absurd hb (not_big kr kv (hD hp))
 · exact absurd hp kp
 · exact absurd kb (not_big hr hv (hD hp))
 · obtain ⟨rfl,rfl,rfl⟩:=right_is hr hv (hD hp) kr kv
   exact ⟨rfl,rfl,rfl,rfl⟩
theorem Gives.spec {w w':World} {P:Prop} {N D:Int} {e:Ending} (h:Gives w P N D e w'):∃ b ns ds err,Hid (OutSpec P N D b ns ds err)∧RAns w b ns ds err e w':=by
 obtain ⟨hb,b,x1,n,y1,x2,m,y2,err,rfl,hO⟩:=h;rcases hO.out with ⟨hp,rfl,rfl,rfl,rfl,rfl,rfl,rfl,rfl⟩ | ⟨hp,rfl,rfl,rfl,rfl,rfl,rfl,rfl,rfl,hbig⟩ | ⟨hp,rfl,ns,ds,rfl,rfl,on,od,hr,hv⟩
 · exact ⟨false,[],[],22,Or.inl ⟨hp,rfl,rfl,rfl,rfl⟩,hb,none,0,none,0,rfl,nil_rd _,nil_rd _⟩
 · exact ⟨false,[],[],8,Or.inr (Or.inl ⟨hp,rfl,rfl,rfl,rfl,hbig⟩),hb,none,0,none,0,rfl,nil_rd _,nil_rd _⟩
 · exact ⟨b,ns,ds,0,Or.inr (Or.inr ⟨hp,rfl,hr,hv⟩),hb,x1,y1,x2,y2,rfl,on.rd,od.rd⟩
theorem Gives.of {w w':World} {P:Prop} {N D M E:Int} {e:Ending} (h:Gives w P N D e w') (hE:P→M=N∧E=D):Gives w P M E e w':=by
 obtain ⟨k1,c,z1,n,z2,z3,m,z4,er,he,hO⟩:=h;refine ⟨k1,c,z1,n,z2,z3,m,z4,er,he,?_⟩;rcases hO.out with h | ⟨h,h2⟩ | ⟨h,h2⟩
 · exact Or.inl h
 · obtain ⟨rfl,rfl⟩:=hE h;exact Or.inr (Or.inl ⟨h,h2⟩)
 · obtain ⟨rfl,rfl⟩:=hE h;exact Or.inr (Or.inr ⟨h,h2⟩)
section
variable {w:World} {b c:Bool} {a1 a2 a3 a4:Option Addr} {c1 c2 c3 c4:Nat} {ns ds ms es:List Int} {j k ty:Nat} {x1 x2:Option Addr} {n1 n2 m1 m2:Nat}
theorem cell_set3 (h:j≠k) (o:Nat) (x y z:Value):(((w.setCell ⟨k,0,none⟩ x).setCell ⟨k,1,none⟩ y).setCell ⟨k,2,none⟩ z).cell? ⟨j,o,none⟩=w.cell? ⟨j,o,none⟩:=by
 have hne:¬ k=j:=fun e=>h e.symm;simp [World.setCell,World.cell?,Array.getElem?_modify,hne]
theorem Rd.put {B:Nat} {v:Value} {xs:List Int} (h:Rd B w v xs) (hk:Box3 w k ty (.bool b) (.slice x1 n1 m1) (.slice x2 n2 m2)) (x y z:Value):Rd B (((w.setCell ⟨k,0,none⟩ x).setCell ⟨k,1,none⟩ y).setCell ⟨k,2,none⟩ z) v xs:=by
 obtain ⟨hl,a,cap,hv,h1,h2,h3,h4⟩:=h;refine ⟨hl,a,cap,hv,h1,h2,h3,?_⟩;rcases h4 with h4 | ⟨b',off,ha,hb,hc⟩
 · exact Or.inl h4
 · by_cases h0:xs.length=0
   · exact Or.inl h0
   · refine Or.inr ⟨b',off,ha,hb,fun i hi => ?_⟩
     rw [cell_set3 ?_]
     · exact hc i hi
     · rintro rfl
       have h5:=hc 0 (by omega);unfold Box3 at hk;rw [Nat.add_zero] at h5
       match off,h5 with
       | 0,h5=>simp [World.cell?,hk] at h5
       | 1,h5=>simp [World.cell?,hk] at h5
       | 2,h5=>simp [World.cell?,hk] at h5
       | o+3,h5=>simp [World.cell?,hk] at h5
theorem NVar.put (P:NVar w k b a1 ns c1 a2 ds c2) (h1:Rd w.heap.size w (.slice a3 ms.length c3) ms) (h2:Rd w.heap.size w (.slice a4 es.length c4) es) :
    NVar (((w.setCell ⟨k,0,none⟩ (.bool c)).setCell ⟨k,1,none⟩ (.slice a3 ms.length c3)).setCell ⟨k,2,none⟩ (.slice a4 es.length c4)) k c a3 ms c3 a4 es c4:=by
 have szz:(((w.setCell ⟨k,0,none⟩ (.bool c)).setCell ⟨k,1,none⟩ (.slice a3 ms.length c3)).setCell ⟨k,2,none⟩ (.slice a4 es.length c4)).heap.size=w.heap.size:=by simp [World.setCell]
 refine ⟨by rw [szz];exact P.lt,P.box.set _ _ _,?_,?_⟩
 · rw [szz];exact h1.put P.box _ _ _
 · rw [szz];exact h2.put P.box _ _ _
theorem NVar.by' (X:NVar w j b a1 ns c1 a2 ds c2) (P:NVar w k c a3 ms c3 a4 es c4) (h:j≠k) (x y z:Value):NVar (((w.setCell ⟨k,0,none⟩ x).setCell ⟨k,1,none⟩ y).setCell ⟨k,2,none⟩ z) j b a1 ns c1 a2 ds c2:=by
 have szz:(((w.setCell ⟨k,0,none⟩ x).setCell ⟨k,1,none⟩ y).setCell ⟨k,2,none⟩ z).heap.size=w.heap.size:=by simp [World.setCell]
 refine ⟨by rw [szz];exact X.lt,X.box.other h _ _ _,?_,?_⟩
 · rw [szz];exact X.rn.put P.box _ _ _
 · rw [szz];exact X.rd.put P.box _ _ _
end
/-- A right number with another sign is right. -/
theorem right_with {b:Bool} {ns ds:List Int} (c:Bool) (h:RightP b ns ds):RightP (c && decide (0<ns.length)) ns ds∧sg (c && decide (0<ns.length)) (val ns)=sg c (val ns):=by
 obtain ⟨l1,l2,c1,c2,hb,hd,hg⟩:=h;by_cases h0:ns.length=0
 · have hv:=(can_zero c1).1 h0
   have hf:(c && decide (0<ns.length))=false:=by rw [h0];simp
   rw [hf];refine ⟨⟨l1,l2,c1,c2,?_,hd,hg⟩,?_⟩
   · rintro ⟨h,_⟩;cases h
   · rw [hv,sg_zero,sg_zero]
 · have hf:(c && decide (0<ns.length))=c:=by rw [decide_eq_true (by omega)];simp
   rw [hf];exact ⟨⟨l1,l2,c1,c2,fun h=>h0 h.2,hd,hg⟩,rfl⟩
theorem ceil_whole (b:Bool) (n d:Int) (hn:0≤n) (hd:0<d):sg b (wholeM (!b) n d) = -((-(sg b n))/d):=by
 have h:=floor_whole (!b) n d hn hd;rw [sg_not,sg_not] at h;omega
theorem big_neg {N D:Int} (h:Big N D):Big (-N) D:=by
 obtain ⟨b,ns,ds,h1,h2,h3,h4,h5,h6⟩:=h;exact ⟨!b,ns,ds,h1,h2,h3,h4,by rw [sg_not,Int.neg_mul,Int.neg_mul,h5],h6⟩
/-- A right number is told. -/
theorem gives_num {w wF:World} {P:Prop} {N D:Int} {b:Bool} {ns ds:List Int} {x1 x2:Option Addr} {y1 y2:Nat} (hP:P) (hb:Below w.heap.size w wF) (on:Own w.heap.size wF (.slice x1 ns.length y1) ns) (od:Own w.heap.size wF (.slice x2 ds.length y2) ds) (hr:RightP b ns ds) (hv:sg b (val ns)*D=N*val ds) :
    Gives w P N D (.returned (.tuple #[.agg #[.bool b,.slice x1 ns.length y1,.slice x2 ds.length y2],.int .i64 0])) wF:=
 ⟨hb,b,x1,ns.length,y1,x2,ds.length,y2,0,rfl,Or.inr (Or.inr ⟨hP,rfl,ns,ds,rfl,rfl,on,od,hr,hv⟩)⟩
section
variable {w:World} {b:Bool} {a1 a2:Option Addr} {c1 c2:Nat} {ns ds:List Int}
theorem neg_rat (h1:Rd w.heap.size w (.slice a1 ns.length c1) ns) (h2:Rd w.heap.size w (.slice a2 ds.length c2) ds) :
    Calls Tryz.prog 43 #[.agg #[.bool b,.slice a1 ns.length c1,.slice a2 ds.length c2]] w fun e w'=>Gives w (RightP b ns ds) (-(sg b (val ns))) (val ds) e w':=by
 obtain ⟨X,R,g⟩:=in1_new (b:=b) w h1 h2;have s0:w.heap.size≤w.heap.size+1:=by omega
 clear h1 h2;obtain ⟨x0,x1,x2⟩:=X.cells;go_enter Tryz.func43,Tryz.ntmps43
 go_wp2_with fail
 clear x0 x1 x2;generalize hA:(w.alloc (.cells #[.bool b,.slice a1 ns.length c1,.slice a2 ds.length c2] 24)).alloc (.cells #[.bool false,.slice none 0 0,.slice none 0 0] 24)=v at *;clear hA;refine (right_rat X.rn X.rd (Nat.le_refl _)).mono ?_;rintro e wa ⟨⟨r,rfl,hr⟩,ka⟩;replace X:=X.below ka;replace R:=R.below ka;replace g:=g.trans (ka.mono g.size);clear ka
 cases r with
 | false=>
  have HP:Hid (¬ RightP b ns ds):=fun h=>by have:=hr.2 h;cases this
  clear hr;have q0:=R.box.c0;have q1:=R.box.c1;have q2:=R.box.c2;have p0:=R.box.f0;have p1:=R.box.f1;have p2:=R.box.f2;go_wp2
  have hR3:=R.box.set (.bool false) (.slice none 0 0) (.slice none 0 0);have r0:=hR3.c0;have r1:=hR3.c1;have r2:=hR3.c2;refine bodyPost_ret (v:=.tuple #[.agg #[.bool false,.slice none 0 0,.slice none 0 0],.int .i64 22]) (by simp [results,Tryz.results43,go_sem,r0,r1,r2]) rfl ?_;exact gives_err HP.out (Below.set3 g s0 _ _ _)
 | true=>
  have HP:Hid (RightP b ns ds):=hr.1 rfl;clear hr;obtain ⟨x0,x1,x2⟩:=X.cells
  go_wp2_with fail
  clear x0 x1 x2;refine (withSign_rat (b:=(!b)) X.rn X.rd (Nat.le_refl _) HP.out).mono ?_;rintro e wb ⟨kb,z1,y1,z2,y2,he,on,od⟩;have HB:=right_with (!b) HP.out
  skip
  subst he;have R':=R;replace R:=R.below kb;replace g:=g.trans (kb.mono g.size);have q0:=R.box.c0;have q1:=R.box.c1;have q2:=R.box.c2;have p0:=R.box.f0;have p1:=R.box.f1;have p2:=R.box.f2;go_wp2
  have hR3:=R.box.set (.bool ((!b) && decide (0<ns.length))) (.slice z1 ns.length y1) (.slice z2 ds.length y2);have r0:=hR3.c0;have r1:=hR3.c1;have r2:=hR3.c2;refine bodyPost_ret (v:=.tuple #[.agg #[.bool ((!b) && decide (0<ns.length)),.slice z1 ns.length y1,.slice z2 ds.length y2],.int .i64 0]) (by simp [results,Tryz.results43,go_sem,r0,r1,r2]) rfl ?_;exact gives_num HP.out (Below.set3 g s0 _ _ _) ((Own.set3 on R'.lt _ _ _).mono (Nat.le_trans s0 (Nat.le_of_lt R'.lt))) ((Own.set3 od R'.lt _ _ _).mono (Nat.le_trans s0 (Nat.le_of_lt R'.lt))) HB.1 (by rw [HB.2,sg_not])
theorem abs_rat (h1:Rd w.heap.size w (.slice a1 ns.length c1) ns) (h2:Rd w.heap.size w (.slice a2 ds.length c2) ds) :
    Calls Tryz.prog 50 #[.agg #[.bool b,.slice a1 ns.length c1,.slice a2 ds.length c2]] w fun e w'=>Gives w (RightP b ns ds) (val ns) (val ds) e w':=by
 obtain ⟨X,R,g⟩:=in1_new (b:=b) w h1 h2;have s0:w.heap.size≤w.heap.size+1:=by omega
 clear h1 h2;obtain ⟨x0,x1,x2⟩:=X.cells;go_enter Tryz.func50,Tryz.ntmps50
 go_wp2_with fail
 clear x0 x1 x2;generalize hA:(w.alloc (.cells #[.bool b,.slice a1 ns.length c1,.slice a2 ds.length c2] 24)).alloc (.cells #[.bool false,.slice none 0 0,.slice none 0 0] 24)=v at *;clear hA;refine (right_rat X.rn X.rd (Nat.le_refl _)).mono ?_;rintro e wa ⟨⟨r,rfl,hr⟩,ka⟩;replace X:=X.below ka;replace R:=R.below ka;replace g:=g.trans (ka.mono g.size);clear ka
 cases r with
 | false=>
  have HP:Hid (¬ RightP b ns ds):=fun h=>by have:=hr.2 h;cases this
  clear hr;have q0:=R.box.c0;have q1:=R.box.c1;have q2:=R.box.c2;have p0:=R.box.f0;have p1:=R.box.f1;have p2:=R.box.f2;go_wp2
  have hR3:=R.box.set (.bool false) (.slice none 0 0) (.slice none 0 0);have r0:=hR3.c0;have r1:=hR3.c1;have r2:=hR3.c2;refine bodyPost_ret (v:=.tuple #[.agg #[.bool false,.slice none 0 0,.slice none 0 0],.int .i64 22]) (by simp [results,Tryz.results50,go_sem,r0,r1,r2]) rfl ?_;exact gives_err HP.out (Below.set3 g s0 _ _ _)
 | true=>
  have HP:Hid (RightP b ns ds):=hr.1 rfl;clear hr;obtain ⟨x0,x1,x2⟩:=X.cells
  go_wp2_with fail
  clear x0 x1 x2;refine (withSign_rat (b:=false) X.rn X.rd (Nat.le_refl _) HP.out).mono ?_;rintro e wb ⟨kb,z1,y1,z2,y2,he,on,od⟩;have HB:=right_with false HP.out;rw [Bool.false_and] at he HB;subst he;have R':=R;replace R:=R.below kb;replace g:=g.trans (kb.mono g.size);have q0:=R.box.c0;have q1:=R.box.c1;have q2:=R.box.c2;have p0:=R.box.f0;have p1:=R.box.f1;have p2:=R.box.f2;go_wp2
  have hR3:=R.box.set (.bool false) (.slice z1 ns.length y1) (.slice z2 ds.length y2);have r0:=hR3.c0;have r1:=hR3.c1;have r2:=hR3.c2;refine bodyPost_ret (v:=.tuple #[.agg #[.bool false,.slice z1 ns.length y1,.slice z2 ds.length y2],.int .i64 0]) (by simp [results,Tryz.results50,go_sem,r0,r1,r2]) rfl ?_;exact gives_num HP.out (Below.set3 g s0 _ _ _) ((Own.set3 on R'.lt _ _ _).mono (Nat.le_trans s0 (Nat.le_of_lt R'.lt))) ((Own.set3 od R'.lt _ _ _).mono (Nat.le_trans s0 (Nat.le_of_lt R'.lt))) HB.1 (by rw [sg_false])
theorem ceil_rat (h1:Rd w.heap.size w (.slice a1 ns.length c1) ns) (h2:Rd w.heap.size w (.slice a2 ds.length c2) ds) :
    Calls Tryz.prog 48 #[.agg #[.bool b,.slice a1 ns.length c1,.slice a2 ds.length c2]] w fun e w'=>Gives w (RightP b ns ds) (-((-(sg b (val ns)))/val ds)) 1 e w':=by
 obtain ⟨X,R,g⟩:=in1_new (b:=b) w h1 h2;have s0:w.heap.size≤w.heap.size+1:=by omega
 clear h1 h2;obtain ⟨x0,x1,x2⟩:=X.cells;go_enter Tryz.func48,Tryz.ntmps48
 go_wp2_with fail
 clear x0 x1 x2;generalize hA:(w.alloc (.cells #[.bool b,.slice a1 ns.length c1,.slice a2 ds.length c2] 24)).alloc (.cells #[.bool false,.slice none 0 0,.slice none 0 0] 24)=v at *;clear hA;refine (whole_rat (!b) X.rn X.rd).mono ?_;rintro e wa ⟨ka,b6,x5,n5,y5,x6,n6,y6,err,rfl,ho⟩;have Ra:=R.below ka;have q0:=Ra.box.c0;have q1:=Ra.box.c1;have q2:=Ra.box.c2;have p0:=Ra.box.f0;have p1:=Ra.box.f1;have p2:=Ra.box.f2;go_wp2
 have hR3:=Ra.box.set (.bool b6) (.slice x5 n5 y5) (.slice x6 n6 y6);have r0:=hR3.c0;have r1:=hR3.c1;have r2:=hR3.c2;refine bodyPost_ret (v:=.tuple #[.agg #[.bool b6,.slice x5 n5 y5,.slice x6 n6 y6],.int .i64 err]) (by simp [results,Tryz.results48,go_sem,r0,r1,r2]) rfl ?_;have hd:=gives_done g s0 R.lt ka (Nat.le_refl _) ho;exact hd.of (fun hP=>⟨(ceil_whole b _ _ (right_pos hP).2 (right_pos hP).1).symm,rfl⟩)
end
/-- Is a number right and whole? -/
def IsWhole (b:Bool) (ns ds:List Int):Prop:=RightP b ns ds∧ds=[1]
section
variable {w:World} {b:Bool} {a1 a2:Option Addr} {c1 c2:Nat} {ns ds:List Int}
end
end
end Go.Proofs.YtilbfkabfgnhpaaGreat
