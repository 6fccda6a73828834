/- array.copyOf of a number, array.Rat, array.Int. -/
import Derived.Test.YtheaeggecpfcbaaGreatK7
import Derived.Test.YtheaeggecpfcbaaGreatJ6
import Derived.Deep.RegionHeld3
import Derived.Test.YtheaeggecpfcbaaGreatJ4
set_option maxRecDepth 100000
set_option maxHeartbeats 8000000
set_option linter.unusedVariables false
set_option linter.unusedSimpArgs false
namespace Go.Proofs.YtheaeggecpfcbaaGreat
section
open Go.RowKit
section
variable {w:World} {b:Bool} {a1 a2:Option Addr} {c1 c2:Nat} {ns ds:List Int}
end
/-- In block k lies an item: a number whose limbs are the call's own. -/
def NumAt (base:Nat) (w:World) (k:Nat) (b:Bool) (ns ds:List Int):Prop:=
 base≤k∧∃ x1 y1 x2 y2,BoxA w k 68 #[.int .u8 1,.bool b,.slice x1 ns.length y1,.slice x2 ds.length y2,.int .i32 0,.slice none 0 0]∧Own base w (.slice x1 ns.length y1) ns∧Own base w (.slice x2 ds.length y2) ds
section
variable {w w':World} {base base' B k R:Nat} {b:Bool} {ns ds:List Int}
theorem NumAt.lt (h:NumAt base w k b ns ds):k<w.heap.size:=by
 obtain ⟨_,_,_,_,_,h,_⟩:=h;exact h.lt
theorem NumAt.mono (h:NumAt base w k b ns ds) (hB:base'≤base):NumAt base' w k b ns ds:=by
 obtain ⟨h0,x1,y1,x2,y2,h1,h2,h3⟩:=h;exact ⟨Nat.le_trans hB h0,x1,y1,x2,y2,h1,h2.mono hB,h3.mono hB⟩
theorem BoxA.other {ty:Nat} {xs:Array Value} {p:Addr} (h:BoxA w k ty xs) (hp:p.block≠k) (v:Value):BoxA (w.setCell p v) k ty xs:=by
 unfold BoxA at *;have hne:¬ p.block=k:=hp;simp [World.setCell,Array.getElem?_modify,hne,h]
theorem NumAt.set2 (h:NumAt base w k b ns ds) (hR:R<base) (u v:Value):NumAt base ((w.setCell ⟨R,0,none⟩ u).setCell ⟨R,1,none⟩ v) k b ns ds:=by
 obtain ⟨h0,x1,y1,x2,y2,h1,h2,h3⟩:=h;have hne:R≠k:=by omega
 refine ⟨h0,x1,y1,x2,y2,(h1.other (p:=⟨R,0,none⟩) hne _).other (p:=⟨R,1,none⟩) hne _,?_,?_⟩
 · exact (h2.setCell (a:=⟨R,0,none⟩) (ownBlock_ne h2 hR) _).setCell (a:=⟨R,1,none⟩) (ownBlock_ne h2 hR) _
 · exact (h3.setCell (a:=⟨R,0,none⟩) (ownBlock_ne h3 hR) _).setCell (a:=⟨R,1,none⟩) (ownBlock_ne h3 hR) _
theorem BoxA.set2 {ty:Nat} {u0 u1:Value} (h:BoxA w R ty #[u0,u1]) (u v:Value):BoxA ((w.setCell ⟨R,0,none⟩ u).setCell ⟨R,1,none⟩ v) R ty #[u,v]:=by
 unfold BoxA at h ⊢;simp [World.setCell,Array.getElem?_modify,h]
theorem Below.set2 (h:Below base w w') (hB:base≤R) (u v:Value):Below base w ((w'.setCell ⟨R,0,none⟩ u).setCell ⟨R,1,none⟩ v):=
 (h.setCell (p:=⟨R,0,none⟩) hB _).setCell (p:=⟨R,1,none⟩) hB _
end
/-- A scalar of a number is answered. -/
def ScalarAns (w:World) (b:Bool) (ns ds:List Int) (e:Ending) (w':World):Prop:=
 ∃ k,e=.returned (.agg #[.slice none 0 0,.slice (some ⟨k,0,none⟩) 1 1])∧NumAt w.heap.size w' k b ns ds∧Below w.heap.size w w'
theorem equal_walk (b1 o1 c1 b2 o2 c2 n:Nat) (xs:List Int) (w:World) (hb:n≤9223372036854775807)
    (k1:∀ j,j<n→w.cell? ⟨b1,o1+j,none⟩=some (.int .u32 (xs.getD j 0)))
    (k2:∀ j,j<n→w.cell? ⟨b2,o2+j,none⟩=some (.int .u32 (xs.getD j 0))) :
    Calls Tryz.prog 132 #[.slice (some ⟨b1,o1,none⟩) n c1,.slice (some ⟨b2,o2,none⟩) n c2] w fun e w'=>e=.returned (.bool true)∧∃ q,w'=w.drewN q:=by
 have K1:Hid (∀ j,j<n→w.cell? ⟨b1,o1+j,none⟩=some (.int .u32 (xs.getD j 0))):=k1;have K2:Hid (∀ j,j<n→w.cell? ⟨b2,o2+j,none⟩=some (.int .u32 (xs.getD j 0))):=k2;clear k1 k2;go_enter Tryz.func132,Tryz.ntmps132;go_wp2
 go_loopw [13] (fun s wr=>(∃ q,wr=w.drewN q)∧∃ j:Nat,j≤n∧s=.int .i64 j) (fun s _=>n - (intOf s).toNat)
 case atStart=>exact ⟨⟨0,rfl⟩,0,Nat.zero_le _,rfl⟩
 case round=>
  obtain ⟨⟨q,rfl⟩,j,hj,rfl⟩:=hrel;by_cases hlt:j<n
  · have g1:=K1.out j hlt
    have g2:=K2.out j hlt;generalize xs.getD j 0=p at *;go_wp2
    go_quiet (fail)
    go_wp2
    go_roundw
    case rel=>exact ⟨⟨_,rfl⟩,j+1,by omega,by go_num⟩
    case measure=>simp [intOf];omega
  · go_wp2
    go_ret
    exact ⟨rfl,_,rfl⟩
theorem equal_nil (a1 a2:Option Addr) (c1 c2:Nat) (w:World) :
    Calls Tryz.prog 132 #[.slice a1 0 c1,.slice a2 0 c2] w fun e w'=>e=.returned (.bool true)∧w=w':=by
 go_enter Tryz.func132,Tryz.ntmps132;go_wp2
 go_loopw [13] (fun s wr=>wr=w∧s=.int .i64 0) (fun _ _=>0)
 case atStart=>exact ⟨rfl,rfl⟩
 case round=>
  obtain ⟨rfl,rfl⟩:=hrel;go_wp2
  go_ret
  exact ⟨rfl,rfl⟩
theorem equal_rd {B B':Nat} {w:World} {v1 v2:Value} {xs:List Int} (h1:Rd B w v1 xs) (h2:Rd B' w v2 xs) :
    Calls Tryz.prog 132 #[v1,v2] w fun e w'=>e=.returned (.bool true)∧Below w.heap.size w w':=by
 obtain ⟨_,a1,c1,rfl,i1,j1,_,f1⟩:=h1;obtain ⟨_,a2,c2,rfl,i2,j2,_,f2⟩:=h2;by_cases h0:xs.length=0
 · rw [h0]
   refine (equal_nil a1 a2 c1 c2 w).mono ?_;rintro e w' ⟨rfl,rfl⟩;exact ⟨rfl,Below.refl _ _⟩
 · rcases f1 with f1 | ⟨b1,o1,rfl,_,k1⟩
   · exact absurd f1 h0
   rcases f2 with f2 | ⟨b2,o2,rfl,_,k2⟩
   · exact absurd f2 h0
   refine (equal_walk b1 o1 c1 b2 o2 c2 xs.length xs w (by omega) k1 k2).mono ?_;rintro e w' ⟨rfl,q,rfl⟩;exact ⟨rfl,below_drewN' (Below.refl _ _) q⟩
theorem equal_shape (a1 a2:Option Addr) (c1 c2:Nat) (w:World) :
    Calls Tryz.prog 86 #[.slice a1 0 c1,.slice a2 0 c2] w fun e w'=>e=.returned (.bool true)∧w=w':=by
 go_enter Tryz.func86,Tryz.ntmps86;go_wp2
 go_loopw [13] (fun s wr=>wr=w∧s=.int .i64 0) (fun _ _=>0)
 case atStart=>exact ⟨rfl,rfl⟩
 case round=>
  obtain ⟨rfl,rfl⟩:=hrel;go_wp2
  go_ret
  exact ⟨rfl,rfl⟩
section
variable {w:World} {base k:Nat} {b:Bool} {ns ds:List Int}
end
section
variable {w:World} {b:Bool} {a1 a2:Option Addr} {c1 c2:Nat} {ns ds:List Int}
end
end
section
open Go.RowKit
def okR (c:Int):Prop:=(0≤c∧c<55296)∨(57343<c∧c≤1114111)
/-- Has an item no number? -/
def noneB (t:Tr):Bool:=!t.b && decide (t.ns.length=0) && decide (t.ds.length=0)
/-- Is an array a scalar of a number or a character? -/
def simpB (t:Tr):Bool:=decide (t.ns.length=0) && decide (t.kids.length=1) && (decide ((t.kids.getD 0 tr0).k=1) || decide ((t.kids.getD 0 tr0).k=2))
open Classical in
/-- An item's measure, where M tells that of its array. -/
noncomputable def measI (M:Tr→Option (Int×Int)) (t:Tr):Option (Int×Int):=
 if t.k=1 then (if RightP t.b t.ns t.ds∧t.c=0∧t.kids.length=0 then some (0,0) else none)
 else if t.k=2 then (if okR t.c∧noneB t=true∧t.kids.length=0 then some (0,0) else none)
 else if t.k=3 then (if noneB t=true∧t.c=0∧t.kids.length=1∧simpB (t.kids.getD 0 tr0)=false then M (t.kids.getD 0 tr0) else none)
 else none
def measL (I:Tr→Option (Int×Int)):List Tr→Int×Int→Option (Int×Int)
 | [],w=>some w
 | t :: r,w=>match I t with
  | none=>none
  | some p=>if 16384<w.2+p.2 then none else measL I r (max w.1 (1+p.1),w.2+p.2)
/-- An array's measure, so many levels down. -/
noncomputable def measF:Nat→Tr→Option (Int×Int)
 | 0,_=>none
 | L+1,t=>if (sizeF t.ns).2=0∧(t.kids.length:Int)=max (sizeF t.ns).1 1 then
     (match measL (measI (measF L)) t.kids (1,(t.kids.length:Int)) with
      | none=>none
      | some p=>some (if simpB t=true then 0 else p.1,p.2)) else none
/-- How a measure is told. -/
def mEnd (o:Option (Int×Int)):Ending:=.returned (.tuple #[.agg #[.int .i64 (o.getD (0,0)).1,.int .i64 (o.getD (0,0)).2],.bool o.isSome])
theorem isNone_any (b:Bool) (a1:Option Addr) (n1 c1:Nat) (a2:Option Addr) (n2 c2:Nat) (w:World) (h1:n1≤9223372036854775807) (h2:n2≤9223372036854775807) :
    Calls Tryz.prog 77 #[.agg #[.bool b,.slice a1 n1 c1,.slice a2 n2 c2]] w fun e w'=>e=.returned (.bool (!b && decide (n1=0) && decide (n2=0)))∧w'=w.alloc (.cells #[.bool b,.slice a1 n1 c1,.slice a2 n2 c2] 34):=by
 have X:=boxA_new w #[.bool b,.slice a1 n1 c1,.slice a2 n2 c2] 34;have x0:=X.cell 0 rfl;have x1:=X.cell 1 rfl;have x2:=X.cell 2 rfl;go_enter Tryz.func77,Tryz.ntmps77
 cases b with
 | true=>
  go_wp2
  go_ret
  exact ⟨rfl,rfl⟩
 | false=>
  by_cases e1:n1=0
  · have d1:((n1:Int)==0)=true:=by rw [beq_iff_eq];omega
    by_cases e2:n2=0
    · have d2:((n2:Int)==0)=true:=by rw [beq_iff_eq];omega
      have HQ:Hid ((!false && decide (n1=0) && decide (n2=0))=true):=by unfold Hid;rw [decide_eq_true e1,decide_eq_true e2];rfl
      clear e1 e2;go_wp2
      go_ret
      exact ⟨by rw [HQ.out];rfl,rfl⟩
    · have d2:((n2:Int)==0)=false:=by rw [beq_eq_false_iff_ne];omega
      have HQ:Hid ((!false && decide (n1=0) && decide (n2=0))=false):=by unfold Hid;rw [decide_eq_true e1,decide_eq_false e2];rfl
      clear e1 e2;go_wp2
      go_ret
      exact ⟨by rw [HQ.out];rfl,rfl⟩
  · have d1:((n1:Int)==0)=false:=by rw [beq_eq_false_iff_ne];omega
    have HQ:Hid ((!false && decide (n1=0) && decide (n2=0))=false):=by unfold Hid;rw [decide_eq_false e1];rfl
    clear e1;go_wp2
    go_ret
    exact ⟨by rw [HQ.out];rfl,rfl⟩
theorem isSimpleT_any {D:Nat→Prop} {f:Nat} {W:World} {x1:Option Addr} {n1 y1:Nat} {x2:Option Addr} {n2 y2:Nat} {t:Tr} (h:ArV (f+1) D W (.slice x1 n1 y1) (.slice x2 n2 y2) t) (hD:∀ g,D g→g<W.heap.size) :
    Calls Tryz.prog 69 #[.agg #[.slice x1 n1 y1,.slice x2 n2 y2]] W fun e w'=>e=.returned (.bool (simpB t))∧w'=W.alloc (.cells #[.slice x1 n1 y1,.slice x2 n2 y2] 25):=by
 obtain rfl:=h.1.len;obtain rfl:=h.2.len;have bd1:=h.1.bounds;have bd2:=h.2.bounds;have X:=boxA_new W #[.slice x1 t.ns.length y1,.slice x2 t.kids.length y2] 25;have k:=below_alloc W (.cells #[.slice x1 t.ns.length y1,.slice x2 t.kids.length y2] 25);have p0:=X.cell 0 rfl;have p1:=X.cell 1 rfl;go_enter Tryz.func69,Tryz.ntmps69;by_cases e1:t.ns.length=0
 · have d1:((t.ns.length:Int)==0)=true:=by rw [beq_iff_eq];omega
   by_cases e2:t.kids.length=1
   · have d2:((t.kids.length:Int)==1)=true:=by rw [beq_iff_eq];omega
     obtain ⟨g,o,rfl,hg,hc⟩:=h.2.ptr (by omega);obtain ⟨a1,c1,a2,c2,a3,c3,⟨z0,_⟩,_⟩:=hc 0 (by omega);rw [Nat.zero_mul,Nat.add_zero] at z0;have q0:=(k.cell (p:=⟨g,o,none⟩) (hD g hg)).trans z0;have HQ:Hid (simpB t=(decide ((t.kids.getD 0 tr0).k=1) || decide ((t.kids.getD 0 tr0).k=2))):=by unfold Hid simpB;rw [decide_eq_true e1,decide_eq_true e2];rfl
     have hpos:0<t.kids.length:=by omega
     clear h hc z0 e1 e2;generalize (t.kids.getD 0 tr0).k=K at *;by_cases k1:K=1
     · have d3:(K==1)=true:=by rw [beq_iff_eq];exact k1
       have HR:Hid (simpB t=true):=by unfold Hid;rw [HQ.out,decide_eq_true k1];rfl
       clear k1 HQ;go_wp2
       go_ret
       exact ⟨by rw [HR.out];rfl,rfl⟩
     · have d3:(K==1)=false:=by rw [beq_eq_false_iff_ne];exact k1
       by_cases k2:K=2
       · have d4:(K==2)=true:=by rw [beq_iff_eq];exact k2
         have HR:Hid (simpB t=true):=by unfold Hid;rw [HQ.out,decide_eq_false k1,decide_eq_true k2];rfl
         clear k1 k2 HQ;go_wp2
         go_ret
         exact ⟨by rw [HR.out];rfl,rfl⟩
       · have d4:(K==2)=false:=by rw [beq_eq_false_iff_ne];exact k2
         have HR:Hid (simpB t=false):=by unfold Hid;rw [HQ.out,decide_eq_false k1,decide_eq_false k2];rfl
         clear k1 k2 HQ;go_wp2
         go_ret
         exact ⟨by rw [HR.out];rfl,rfl⟩
   · have d2:((t.kids.length:Int)==1)=false:=by rw [beq_eq_false_iff_ne];omega
     have HR:Hid (simpB t=false):=by unfold Hid simpB;rw [decide_eq_true e1,decide_eq_false e2];rfl
     clear e1 e2;go_wp2
     go_ret
     exact ⟨by rw [HR.out];rfl,rfl⟩
 · have d1:((t.ns.length:Int)==0)=false:=by rw [beq_eq_false_iff_ne];omega
   have HR:Hid (simpB t=false):=by unfold Hid simpB;rw [decide_eq_false e1];rfl
   clear e1;go_wp2
   go_ret
   exact ⟨by rw [HR.out];rfl,rfl⟩
section
variable {M:Tr→Option (Int×Int)} {t:Tr}
theorem measI_num (e1:t.k=1) (h:RightP t.b t.ns t.ds∧t.c=0∧t.kids.length=0):measI M t=some (0,0):=by unfold measI;rw [if_pos e1,if_pos h]
theorem measI_num_no (e1:t.k=1) (h:¬ (RightP t.b t.ns t.ds∧t.c=0∧t.kids.length=0)):measI M t=none:=by unfold measI;rw [if_pos e1,if_neg h]
theorem measI_ch (e1:t.k=2) (h:okR t.c∧noneB t=true∧t.kids.length=0):measI M t=some (0,0):=by unfold measI;rw [if_neg (by omega),if_pos e1,if_pos h]
theorem measI_ch_no (e1:t.k=2) (h:¬ (okR t.c∧noneB t=true∧t.kids.length=0)):measI M t=none:=by unfold measI;rw [if_neg (by omega),if_pos e1,if_neg h]
theorem measI_box (e1:t.k=3) (h:noneB t=true∧t.c=0∧t.kids.length=1∧simpB (t.kids.getD 0 tr0)=false):measI M t=M (t.kids.getD 0 tr0):=by unfold measI;rw [if_neg (by omega),if_neg (by omega),if_pos e1,if_pos h]
theorem measI_box_no (e1:t.k=3) (h:¬ (noneB t=true∧t.c=0∧t.kids.length=1∧simpB (t.kids.getD 0 tr0)=false)):measI M t=none:=by unfold measI;rw [if_neg (by omega),if_neg (by omega),if_pos e1,if_neg h]
theorem measI_else (h1:¬ t.k=1) (h2:¬ t.k=2) (h3:¬ t.k=3):measI M t=none:=by unfold measI;rw [if_neg h1,if_neg h2,if_neg h3]
end
/-- measured tells what it should, so many levels down. -/
def MeasOK (L:Nat):Prop:=∀ (f:Nat) (D:Nat→Prop) (W:World) (x1:Option Addr) (n1 y1:Nat) (x2:Option Addr) (n2 y2:Nat) (t:Tr),(∀ g,D g→g<W.heap.size)→ArV f D W (.slice x1 n1 y1) (.slice x2 n2 y2) t →
 Calls Tryz.prog 38 #[.agg #[.slice x1 n1 y1,.slice x2 n2 y2],.int .i64 L] W fun e w'=>e=mEnd (measF L t)∧Below W.heap.size W w'
def TellsRune (c:Int) (e:Ending):Prop:=∃ r,e=.returned (.bool r)∧(r=true↔okR c)
theorem validRune_any (c:Int) (w:World):Calls Tryz.prog 76 #[.int .i32 c] w fun e w'=>TellsRune c e∧Below w.heap.size w w':=by
 go_enter Tryz.func76,Tryz.ntmps76;by_cases h1:0≤c
 · by_cases h2:c<55296
   · go_wp2
     go_ret
     exact ⟨⟨true,rfl,fun _=>Or.inl ⟨h1,h2⟩,fun _=>rfl⟩,Below.refl _ _⟩
   · by_cases h3:57343<c
     · by_cases h4:c≤1114111
       · go_wp2
         go_ret
         exact ⟨⟨true,rfl,fun _=>Or.inr ⟨h3,h4⟩,fun _=>rfl⟩,Below.refl _ _⟩
       · go_wp2
         go_ret
         exact ⟨⟨false,rfl,(fun h=>by cases h),fun h=>by unfold okR at h;omega⟩,Below.refl _ _⟩
     · go_wp2
       go_ret
       exact ⟨⟨false,rfl,(fun h=>by cases h),fun h=>by unfold okR at h;omega⟩,Below.refl _ _⟩
 · go_wp2
   go_ret
   exact ⟨⟨false,rfl,(fun h=>by cases h),fun h=>by unfold okR at h;omega⟩,Below.refl _ _⟩
end
section
open Go.RowKit
section
variable {w:World} {b c:Bool} {a1 a2 a3 a4:Option Addr} {c1 c2 c3 c4:Nat} {ns ds ms es:List Int} {j k ty:Nat} {x1 x2:Option Addr} {n1 n2 m1 m2:Nat}
end
section
variable {w:World} {b:Bool} {a1 a2:Option Addr} {c1 c2:Nat} {ns ds:List Int}
end
/-- Is a number right and whole? -/
def IsWhole (b:Bool) (ns ds:List Int):Prop:=RightP b ns ds∧ds=[1]
/-- What is told of a whole number as an int. -/
def IntTold (P:Prop) (z n:Int) (ok:Bool):Prop:=(ok=true∧P∧-9223372036854775808≤z∧z<9223372036854775808∧n=z)∨(ok=false∧n=0∧¬ (P∧-9223372036854775808≤z∧z<9223372036854775808))
section
variable {w:World} {b:Bool} {a1 a2:Option Addr} {c1 c2:Nat} {ns ds:List Int}
theorem isInt_rat (h1:Rd w.heap.size w (.slice a1 ns.length c1) ns) (h2:Rd w.heap.size w (.slice a2 ds.length c2) ds) :
    Calls Tryz.prog 175 #[.agg #[.bool b,.slice a1 ns.length c1,.slice a2 ds.length c2]] w fun e w'=>TellsP (IsWhole b ns ds) e∧Below w.heap.size w w':=by
 have X:=nvar_new (b:=b) h1 h2;have g:=below_alloc w (.cells #[.bool b,.slice a1 ns.length c1,.slice a2 ds.length c2] 34);obtain ⟨x0,x1,x2⟩:=X.cells;go_enter Tryz.func175,Tryz.ntmps175
 go_wp2_with fail
 clear x0 x1 x2;generalize hA:w.alloc (.cells #[.bool b,.slice a1 ns.length c1,.slice a2 ds.length c2] 34)=v at *;clear hA;refine (right_rat X.rn X.rd (Nat.le_refl _)).mono ?_;rintro e wa ⟨⟨r,rfl,hr⟩,ka⟩;replace X:=X.below ka;replace g:=g.trans (ka.mono g.size);clear ka;obtain ⟨x0,x1,x2⟩:=X.cells
 cases r with
 | false=>
  have HP:Hid (¬ RightP b ns ds):=fun h=>by have:=hr.2 h;cases this
  clear hr;go_wp2
  go_ret
  exact ⟨TellsP.no (fun h=>HP.out h.1),g⟩
 | true=>
  have HP:Hid (RightP b ns ds):=hr.1 rfl;clear hr
  go_wp2_with fail
  refine (isOne_any X.rd).mono ?_;rintro e w' ⟨rfl,rfl⟩;by_cases hone:ds=[1]
  · have HO:Hid (ds=[1]):=hone
    rw [decide_eq_true hone];clear hone;go_wp2
    go_ret
    exact ⟨TellsP.yes ⟨HP.out,HO.out⟩,g⟩
  · have HO:Hid (¬ ds=[1]):=hone
    rw [decide_eq_false hone];clear hone;go_wp2
    go_ret
    exact ⟨TellsP.no (fun h=>HO.out h.2),g⟩
theorem toInt_rat (h1:Rd w.heap.size w (.slice a1 ns.length c1) ns) (h2:Rd w.heap.size w (.slice a2 ds.length c2) ds) :
    Calls Tryz.prog 161 #[.agg #[.bool b,.slice a1 ns.length c1,.slice a2 ds.length c2]] w fun e w'=>∃ n ok,e=.returned (.tuple #[.int .i64 n,.bool ok])∧Hid (IntTold (IsWhole b ns ds) (sg b (val ns)) n ok)∧Below w.heap.size w w':=by
 have X:=nvar_new (b:=b) h1 h2;have g:=below_alloc w (.cells #[.bool b,.slice a1 ns.length c1,.slice a2 ds.length c2] 34);obtain ⟨x0,x1,x2⟩:=X.cells;go_enter Tryz.func161,Tryz.ntmps161
 go_wp2_with fail
 clear x0 x1 x2;generalize hA:w.alloc (.cells #[.bool b,.slice a1 ns.length c1,.slice a2 ds.length c2] 34)=v at *;clear hA;refine (isInt_rat X.rn X.rd).mono ?_;rintro e wa ⟨⟨r,rfl,hr⟩,ka⟩;replace X:=X.below ka;replace g:=g.trans (ka.mono g.size);clear ka;obtain ⟨x0,x1,x2⟩:=X.cells
 cases r with
 | false=>
  have HP:Hid (¬ IsWhole b ns ds):=fun h=>by have:=hr.2 h;cases this
  clear hr;go_wp2
  refine bodyPost_ret (v:=.tuple #[.int .i64 0,.bool false]) (by simp [results,Tryz.results161,go_sem]) rfl ?_;exact ⟨0,false,rfl,Or.inr ⟨rfl,rfl,fun h=>HP.out h.1⟩,g⟩
 | true=>
  have HP:Hid (IsWhole b ns ds):=hr.1 rfl;clear hr;have l1:=HP.out.1.1;have HN:Hid (0≤val ns):=(right_pos HP.out.1).2
  cases b with
  | false=>
   go_wp2_with fail
   refine (small_any X.rn (by omega)).mono ?_;rintro e w' ⟨rfl,rfl⟩;by_cases hs:val ns<9223372036854775808
   · rw [smallV_lt hs]
     have HS:Hid (val ns<9223372036854775808):=hs;clear hs;go_wp2
     refine bodyPost_ret (v:=.tuple #[.int .i64 (val ns),.bool true]) (by simp [results,Tryz.results161,go_sem]) rfl ?_;exact ⟨_,_,rfl,Or.inl ⟨rfl,HP.out,by rw [sg_false];have:=HN.out;omega,by rw [sg_false];exact HS.out,rfl⟩,g⟩
   · rw [smallV_ge (by omega)]
     have HS:Hid (¬ val ns<9223372036854775808):=hs;clear hs;go_wp2
     refine bodyPost_ret (v:=.tuple #[.int .i64 0,.bool false]) (by simp [results,Tryz.results161,go_sem]) rfl ?_;exact ⟨_,_,rfl,Or.inr ⟨rfl,rfl,fun h=>by have h5:=HS.out;have h6:=h.2.2;rw [sg_false] at h6;omega⟩,g⟩
  | true=>
   have HV:Hid (1≤val ns):=by
    have h5:=HP.out.1.2.2.2.2.1;have h6:=can_zero HP.out.1.2.2.1;have h7:=HN.out;have h8:¬ val ns=0:=fun h=>h5 ⟨rfl,h6.2 h⟩;unfold Hid;omega
   have hcells:∀ {w':World},Below wa.heap.size wa w'→w'.cell? ⟨w.heap.size,1,none⟩=some (.slice a1 ns.length c1):=fun hb=>(X.below hb).k1;go_wp2
   go_region_held3 (fun w'=>w'.cell? ⟨w.heap.size,1,none⟩=some (.slice a1 ns.length c1))
    (first | (go_keep;done) | exact tw | exact tw2)
    (first
     | (go_at_call 52;refine (one_num _).mono ?_;rintro e we ⟨es,x5,y5,HE,rfl,o3,bf'⟩;have bf:Below wa.heap.size wa we:=below_undrew (w:=wa) (B:=wa.heap.size) bf';have tw:=hcells bf)
     | (have j:=tw;go_at_call 177;refine (minus_any (X.below bf).rn (Nat.le_refl _) o3.rd (Nat.le_refl _) (by omega)).mono ?_;rintro e wf ⟨⟨bg,-⟩,hm⟩;obtain ⟨zs,x6,y6,lz,cz,vz,rfl,oz⟩:=hm (by rw [HE.out,one_val];exact HV.out);have hz:Hid (val zs=val ns - 1):=(by rw [HE.out,one_val] at vz;exact vz);have tg:=bf.trans (bg.mono bf.size);have tw2:=hcells tg))
   have tt:=g.trans (tg.mono g.size);have hz0:=(val_bound oz.lim).1;have lz2:zs.length≤17592186044415:=by omega
   go_wp2_with fail
   refine (small_any oz.rd lz2).mono ?_;rintro e w' ⟨rfl,rfl⟩;by_cases hs:val zs<9223372036854775808
   · rw [smallV_lt hs]
     have hw1:IntKind.i64.wrap (-(val zs)) = -(val zs):=by rw [IntKind.wrap_i64];omega
     have hw2:IntKind.i64.wrap (-(val zs) - 1) = -(val zs) - 1:=by rw [IntKind.wrap_i64];omega
     have HS:Hid (0≤val zs∧val zs<9223372036854775808):=⟨hz0,hs⟩;clear hs hz0 vz;go_wp2
     refine bodyPost_ret (v:=.tuple #[.int .i64 (-(val zs) - 1),.bool true]) (by simp [results,Tryz.results161,go_sem]) rfl ?_;have h5:=HS.out;have h6:=hz.out;have h7:sg true (val ns) = -(val ns):=by simp [sg]
     exact ⟨_,_,rfl,Or.inl ⟨rfl,HP.out,by rw [h7];omega,by rw [h7];omega,by rw [h7];omega⟩,tt⟩
   · rw [smallV_ge (by omega)]
     have HS:Hid (¬ val zs<9223372036854775808):=hs;clear hs hz0 vz;go_wp2
     refine bodyPost_ret (v:=.tuple #[.int .i64 0,.bool false]) (by simp [results,Tryz.results161,go_sem]) rfl ?_;have h5:=HS.out;have h6:=hz.out;have h7:sg true (val ns) = -(val ns):=by simp [sg]
     exact ⟨_,_,rfl,Or.inr ⟨rfl,rfl,fun h=>by rw [h7] at h;omega⟩,tt⟩
end
end
end Go.Proofs.YtheaeggecpfcbaaGreat
