/- rat.wholeNextTo, rat.Floor: the whole numbers next to a number. -/
import Derived.Test.YtimfnalpmmkndaaGreatDoorJ6
import Derived.Test.YtimfnalpmmkndaaGreatDoorJ7
import Derived.Test.YtimfnalpmmkndaaGreatDoorSA
import Derived.Deep.RegionHeld3
import Derived.Test.YtimfnalpmmkndaaGreatDoorJ4
set_option maxRecDepth 100000
set_option maxHeartbeats 3200000
set_option linter.unusedVariables false
set_option linter.unusedSimpArgs false
namespace Go.Proofs.YtimfnalpmmkndaaGreatDoor
open Go.RowKit
structure RVar (w:World) (k:Nat):Prop where
 lt:k<w.heap.size
 box:Box3 w k 110 (.bool false) (.slice none 0 0) (.slice none 0 0)
theorem RVar.below {w w':World} {k:Nat} (h:RVar w k) (hb:Below w.heap.size w w'):RVar w' k:=⟨Nat.lt_of_lt_of_le h.lt hb.size,h.box.below hb h.lt⟩
theorem rvar_new (w:World):RVar (w.alloc (.cells #[.bool false,.slice none 0 0,.slice none 0 0] 110)) w.heap.size:=⟨by simp,box3_new _ _ _ _ _⟩
theorem one_val:val [(1:Int)]=1:=by decide
section
variable {B:Nat} {w:World} {bx:Bool} {a1 a2:Option Addr} {c1 c2:Nat} {xn xd:List Int}
end
theorem of_can (n:Int) (h0:0≤n) (h1:n<18446744073709551616):can (tr [n % 4294967296,n/4294967296])∧val (tr [n % 4294967296,n/4294967296])=n∧(tr [n % 4294967296,n/4294967296]).length≤2:=by
 refine ⟨tr_can (fun x hx=>by simp at hx;omega),?_,?_⟩
 · rw [val_tr];simp [val];omega
 · have:=tr_length_le [n % 4294967296,n/4294967296]
   simpa using this
theorem of_num (n:Int) (h0:0≤n) (h1:n<18446744073709551616) (w:World):Calls Tryz.prog 88 #[.int .u64 n] w fun e w'=>∃ ns,can ns∧Hid (val ns=n)∧ns.length≤2∧Makes w e w' ns:=by
 refine (of_any n h0 h1 w).mono ?_;intro e w' h;have hc:=of_can n h0 h1;exact ⟨_,hc.1,hc.2.1,hc.2.2,h⟩
def WholeIs (k:Int) (b:Bool) (ns ds:List Int):Prop:=b=decide (k<0)∧can ns∧val ns=(if k<0 then -k else k)∧ns.length≤2∧ds=[1]
theorem WholeIs.right {k:Int} {b:Bool} {ns ds:List Int} (h:WholeIs k b ns ds):RightP b ns ds:=by
 obtain ⟨rfl,cn,vn,ln,rfl⟩:=h;refine ⟨by omega,by simp,cn,can_one,?_,by simp,by rw [one_val];exact gI_one_right _⟩;rintro ⟨hb,hz⟩;rw [(can_zero cn).1 hz] at vn;rw [decide_eq_true_iff] at hb;rw [if_pos hb] at vn;omega
def WholeNum (w:World) (k:Int) (e:Ending) (w':World):Prop:=
 Below w.heap.size w w'∧∃ b ns ds a1 c1 a2 c2,Hid (WholeIs k b ns ds)∧e=.returned (.agg #[.bool b,.slice a1 ns.length c1,.slice a2 ds.length c2])∧Own w.heap.size w' (.slice a1 ns.length c1) ns∧Own w.heap.size w' (.slice a2 ds.length c2) ds
theorem ofInt_any (k:Int) (h0:-9223372036854775808≤k) (h1:k<9223372036854775808) (w:World):Calls Tryz.prog 62 #[.int .i64 k] w fun e w'=>WholeNum w k e w':=by
 have R:=rvar_new w;have g:=below_alloc w (.cells #[.bool false,.slice none 0 0,.slice none 0 0] 110);go_enter Tryz.func62,Tryz.ntmps62;by_cases hk:k<0
 · have hkb:decide (k<0)=true:=decide_eq_true hk
   have hw:IntKind.u64.wrap (-IntKind.u64.wrap k) = -k:=by rw [IntKind.wrap_u64,IntKind.wrap_u64];omega
   go_wp2_with fail
   generalize hA:w.alloc (.cells #[.bool false,.slice none 0 0,.slice none 0 0] 110)=v at *;clear hA;refine (of_num (-k) (by omega) (by omega) _).mono ?_;rintro e wa ⟨ns,cn,vn,ln,x1,y1,rfl,o1,ka⟩
   go_wp2_with fail
   refine (one_any _).mono ?_;rintro e wb ⟨x2,y2,hb,o2,kb⟩;obtain ⟨ds,hds⟩:∃ ds:List Int,ds=[1]:=⟨_,rfl⟩;rw [← hds] at hb o2;subst hb;have HD:Hid (ds=[1]):=hds;clear hds;have t:Below v.heap.size v wb:=ka.trans (kb.mono ka.size);have Rb:=R.below t;have q0:=Rb.box.c0;have q1:=Rb.box.c1;have q2:=Rb.box.c2;have p0:=Rb.box.f0;have p1:=Rb.box.f1;have p2:=Rb.box.f2;go_wp2
   have hR3:=Rb.box.set (.bool true) (.slice x1 ns.length y1) (.slice x2 ds.length y2);have r0:=hR3.c0;have r1:=hR3.c1;have r2:=hR3.c2;refine bodyPost_ret (v:=.agg #[.bool true,.slice x1 ns.length y1,.slice x2 ds.length y2]) (by simp [results,Tryz.results62,go_sem,r0,r1,r2]) rfl ?_;exact ⟨Below.set3 (g.trans (t.mono g.size)) (Nat.le_refl _) _ _ _,true,ns,ds,x1,y1,x2,y2,⟨hkb.symm,cn,by rw [vn.out,if_pos hk],ln,HD.out⟩,rfl,(Own.set3 (o1.below kb (Nat.le_refl _)) R.lt _ _ _).mono g.size,(Own.set3 (o2.mono ka.size) R.lt _ _ _).mono g.size⟩
 · have hkb:decide (k<0)=false:=decide_eq_false hk
   go_wp2_with fail
   generalize hA:w.alloc (.cells #[.bool false,.slice none 0 0,.slice none 0 0] 110)=v at *;clear hA;refine (of_num k (by omega) (by omega) _).mono ?_;rintro e wa ⟨ns,cn,vn,ln,x1,y1,rfl,o1,ka⟩
   go_wp2_with fail
   refine (one_any _).mono ?_;rintro e wb ⟨x2,y2,hb,o2,kb⟩;obtain ⟨ds,hds⟩:∃ ds:List Int,ds=[1]:=⟨_,rfl⟩;rw [← hds] at hb o2;subst hb;have HD:Hid (ds=[1]):=hds;clear hds;have t:Below v.heap.size v wb:=ka.trans (kb.mono ka.size);have Rb:=R.below t;have q0:=Rb.box.c0;have q1:=Rb.box.c1;have q2:=Rb.box.c2;have p0:=Rb.box.f0;have p1:=Rb.box.f1;have p2:=Rb.box.f2;go_wp2
   have hR3:=Rb.box.set (.bool false) (.slice x1 ns.length y1) (.slice x2 ds.length y2);have r0:=hR3.c0;have r1:=hR3.c1;have r2:=hR3.c2;refine bodyPost_ret (v:=.agg #[.bool false,.slice x1 ns.length y1,.slice x2 ds.length y2]) (by simp [results,Tryz.results62,go_sem,r0,r1,r2]) rfl ?_;exact ⟨Below.set3 (g.trans (t.mono g.size)) (Nat.le_refl _) _ _ _,false,ns,ds,x1,y1,x2,y2,⟨hkb.symm,cn,by rw [vn.out,if_neg (by omega)],ln,HD.out⟩,rfl,(Own.set3 (o1.below kb (Nat.le_refl _)) R.lt _ _ _).mono g.size,(Own.set3 (o2.mono ka.size) R.lt _ _ _).mono g.size⟩
section
variable {w:World} {b:Bool} {a1 a2:Option Addr} {c1 c2:Nat} {ns ds:List Int}
end
def NumAt (base:Nat) (w:World) (k:Nat) (b:Bool) (ns ds:List Int):Prop:=
 base≤k∧∃ x1 y1 x2 y2,BoxA w k 113 #[.int .u8 1,.bool b,.slice x1 ns.length y1,.slice x2 ds.length y2,.int .i32 0,.slice none 0 0]∧Own base w (.slice x1 ns.length y1) ns∧Own base w (.slice x2 ds.length y2) ds
section
variable {w w':World} {base base' B k R:Nat} {b:Bool} {ns ds:List Int}
theorem NumAt.lt (h:NumAt base w k b ns ds):k<w.heap.size:=by
 obtain ⟨_,_,_,_,_,h,_⟩:=h;exact h.lt
theorem NumAt.mono (h:NumAt base w k b ns ds) (hB:base'≤base):NumAt base' w k b ns ds:=by
 obtain ⟨h0,x1,y1,x2,y2,h1,h2,h3⟩:=h;exact ⟨Nat.le_trans hB h0,x1,y1,x2,y2,h1,h2.mono hB,h3.mono hB⟩
theorem BoxA.other {ty:Nat} {xs:Array Value} {p:Addr} (h:BoxA w k ty xs) (hp:p.block≠k) (v:Value):BoxA (w.setCell p v) k ty xs:=by
 unfold BoxA at *;have hne:¬ p.block=k:=hp;simp [World.setCell,Array.getElem?_modify,hne,h]
theorem NumAt.set2 (h:NumAt base w k b ns ds) (hR:R<base) (u v:Value):NumAt base ((w.setCell ⟨R,0,none⟩ u).setCell ⟨R,1,none⟩ v) k b ns ds:=by
 obtain ⟨h0,x1,y1,x2,y2,h1,h2,h3⟩:=h;have hne:R≠k:=by omega
 refine ⟨h0,x1,y1,x2,y2,(h1.other (p:=⟨R,0,none⟩) hne _).other (p:=⟨R,1,none⟩) hne _,?_,?_⟩
 · exact (h2.setCell (a:=⟨R,0,none⟩) (ownBlock_ne h2 hR) _).setCell (a:=⟨R,1,none⟩) (ownBlock_ne h2 hR) _
 · exact (h3.setCell (a:=⟨R,0,none⟩) (ownBlock_ne h3 hR) _).setCell (a:=⟨R,1,none⟩) (ownBlock_ne h3 hR) _
theorem BoxA.set2 {ty:Nat} {u0 u1:Value} (h:BoxA w R ty #[u0,u1]) (u v:Value):BoxA ((w.setCell ⟨R,0,none⟩ u).setCell ⟨R,1,none⟩ v) R ty #[u,v]:=by
 unfold BoxA at h ⊢;simp [World.setCell,Array.getElem?_modify,h]
theorem Below.set2 (h:Below base w w') (hB:base≤R) (u v:Value):Below base w ((w'.setCell ⟨R,0,none⟩ u).setCell ⟨R,1,none⟩ v):=
 (h.setCell (p:=⟨R,0,none⟩) hB _).setCell (p:=⟨R,1,none⟩) hB _
end
def ScalarAns (w:World) (b:Bool) (ns ds:List Int) (e:Ending) (w':World):Prop:=
 ∃ k,e=.returned (.agg #[.slice none 0 0,.slice (some ⟨k,0,none⟩) 1 1])∧NumAt w.heap.size w' k b ns ds∧Below w.heap.size w w'
theorem equal_walk (b1 o1 c1 b2 o2 c2 n:Nat) (xs:List Int) (w:World) (hb:n≤9223372036854775807)
    (k1:∀ j,j<n→w.cell? ⟨b1,o1+j,none⟩=some (.int .u32 (xs.getD j 0)))
    (k2:∀ j,j<n→w.cell? ⟨b2,o2+j,none⟩=some (.int .u32 (xs.getD j 0))) :
    Calls Tryz.prog 130 #[.slice (some ⟨b1,o1,none⟩) n c1,.slice (some ⟨b2,o2,none⟩) n c2] w fun e w'=>e=.returned (.bool true)∧∃ q,w'=w.drewN q:=by
 have K1:Hid (∀ j,j<n→w.cell? ⟨b1,o1+j,none⟩=some (.int .u32 (xs.getD j 0))):=k1;have K2:Hid (∀ j,j<n→w.cell? ⟨b2,o2+j,none⟩=some (.int .u32 (xs.getD j 0))):=k2;clear k1 k2;go_enter Tryz.func130,Tryz.ntmps130;go_wp2
 go_loopw [13] (fun s wr=>(∃ q,wr=w.drewN q)∧∃ j:Nat,j≤n∧s=.int .i64 j) (fun s _=>n - (intOf s).toNat)
 case atStart=>exact ⟨⟨0,rfl⟩,0,Nat.zero_le _,rfl⟩
 case round=>
  obtain ⟨⟨q,rfl⟩,j,hj,rfl⟩:=hrel;by_cases hlt:j<n
  · have g1:=K1.out j hlt
    have g2:=K2.out j hlt;generalize xs.getD j 0=p at *;go_wp2
    go_quiet (fail)
    go_wp2
    go_roundw
    case rel=>exact ⟨⟨_,rfl⟩,j+1,by omega,by go_num⟩
    case measure=>simp [intOf];omega
  · go_wp2
    go_ret
    exact ⟨rfl,_,rfl⟩
theorem equal_nil (a1 a2:Option Addr) (c1 c2:Nat) (w:World) :
    Calls Tryz.prog 130 #[.slice a1 0 c1,.slice a2 0 c2] w fun e w'=>e=.returned (.bool true)∧w=w':=by
 go_enter Tryz.func130,Tryz.ntmps130;go_wp2
 go_loopw [13] (fun s wr=>wr=w∧s=.int .i64 0) (fun _ _=>0)
 case atStart=>exact ⟨rfl,rfl⟩
 case round=>
  obtain ⟨rfl,rfl⟩:=hrel;go_wp2
  go_ret
  exact ⟨rfl,rfl⟩
theorem equal_rd {B B':Nat} {w:World} {v1 v2:Value} {xs:List Int} (h1:Rd B w v1 xs) (h2:Rd B' w v2 xs) :
    Calls Tryz.prog 130 #[v1,v2] w fun e w'=>e=.returned (.bool true)∧Below w.heap.size w w':=by
 obtain ⟨_,a1,c1,rfl,i1,j1,_,f1⟩:=h1;obtain ⟨_,a2,c2,rfl,i2,j2,_,f2⟩:=h2;by_cases h0:xs.length=0
 · rw [h0]
   refine (equal_nil a1 a2 c1 c2 w).mono ?_;rintro e w' ⟨rfl,rfl⟩;exact ⟨rfl,Below.refl _ _⟩
 · rcases f1 with f1 | ⟨b1,o1,rfl,_,k1⟩
   · exact absurd f1 h0
   rcases f2 with f2 | ⟨b2,o2,rfl,_,k2⟩
   · exact absurd f2 h0
   refine (equal_walk b1 o1 c1 b2 o2 c2 xs.length xs w (by omega) k1 k2).mono ?_;rintro e w' ⟨rfl,q,rfl⟩;exact ⟨rfl,below_drewN' (Below.refl _ _) q⟩
theorem equal_shape (a1 a2:Option Addr) (c1 c2:Nat) (w:World) :
    Calls Tryz.prog 90 #[.slice a1 0 c1,.slice a2 0 c2] w fun e w'=>e=.returned (.bool true)∧w=w':=by
 go_enter Tryz.func90,Tryz.ntmps90;go_wp2
 go_loopw [13] (fun s wr=>wr=w∧s=.int .i64 0) (fun _ _=>0)
 case atStart=>exact ⟨rfl,rfl⟩
 case round=>
  obtain ⟨rfl,rfl⟩:=hrel;go_wp2
  go_ret
  exact ⟨rfl,rfl⟩
section
variable {w:World} {base k:Nat} {b:Bool} {ns ds:List Int}
end
section
variable {w:World} {b:Bool} {a1 a2:Option Addr} {c1 c2:Nat} {ns ds:List Int}
end
end Go.Proofs.YtimfnalpmmkndaaGreatDoor
