/- rat.fold of two numbers, by rat.plus. -/
import Derived.Test.YtheaeggecpfcbaaGreatJ3
import Derived.Lib.ItoaNum
import Derived.Test.YtheaeggecpfcbaaGreatJ2
set_option maxRecDepth 100000
set_option maxHeartbeats 1600000
set_option linter.unusedVariables false
set_option linter.unusedSimpArgs false
namespace Go.Proofs.YtheaeggecpfcbaaGreat
open Go.RowKit
section
variable {B Lb:Nat} {w:World} {bx cy:Bool} {a1 a2 a3 a4:Option Addr} {c1 c2 c3 c4:Nat} {xn xd yn yd:List Int}
end
section
variable {B Lb:Nat} {w:World} {bx cy:Bool} {a1 a2 a3 a4:Option Addr} {c1 c2 c3 c4:Nat} {xn xd yn yd:List Int}
end
section
variable {B:Nat} {w:World} {bx cy:Bool} {a1 a2 a3 a4:Option Addr} {c1 c2 c3 c4:Nat} {xn xd yn yd:List Int}
end
structure NVar (w:World) (k:Nat) (b:Bool) (a1:Option Addr) (ns:List Int) (c1:Nat) (a2:Option Addr) (ds:List Int) (c2:Nat):Prop where
 lt:k<w.heap.size
 box:Box3 w k 34 (.bool b) (.slice a1 ns.length c1) (.slice a2 ds.length c2)
 rn:Rd w.heap.size w (.slice a1 ns.length c1) ns
 rd:Rd w.heap.size w (.slice a2 ds.length c2) ds
section
variable {w w':World} {k:Nat} {b:Bool} {a1 a2:Option Addr} {ns ds:List Int} {c1 c2:Nat}
theorem NVar.below (h:NVar w k b a1 ns c1 a2 ds c2) (hb:Below w.heap.size w w'):NVar w' k b a1 ns c1 a2 ds c2:=
 ⟨Nat.lt_of_lt_of_le h.lt hb.size,h.box.below hb h.lt,(h.rn.below hb).mono hb.size,(h.rd.below hb).mono hb.size⟩
theorem NVar.k0 (h:NVar w k b a1 ns c1 a2 ds c2):w.cell? ⟨k,0,none⟩=some (.bool b):=h.box.c0
theorem NVar.k1 (h:NVar w k b a1 ns c1 a2 ds c2):w.cell? ⟨k,1,none⟩=some (.slice a1 ns.length c1):=h.box.c1
theorem NVar.k2 (h:NVar w k b a1 ns c1 a2 ds c2):w.cell? ⟨k,2,none⟩=some (.slice a2 ds.length c2):=h.box.c2
theorem nvar_new (hn:Rd w.heap.size w (.slice a1 ns.length c1) ns) (hd:Rd w.heap.size w (.slice a2 ds.length c2) ds):NVar (w.alloc (.cells #[.bool b,.slice a1 ns.length c1,.slice a2 ds.length c2] 34)) w.heap.size b a1 ns c1 a2 ds c2:=
 ⟨by simp,box3_new _ _ _ _ _,(hn.below (below_alloc _ _)).mono (by simp),(hd.below (below_alloc _ _)).mono (by simp)⟩
end
section
variable {w:World} {bx cy dz:Bool} {a1 a2 a3 a4 a5 a6:Option Addr} {c1 c2 c3 c4 c5 c6:Nat} {xn xd yn yd zn zd:List Int}
/-- Two numbers come in. -/
theorem nvar_in2 (h1:Rd w.heap.size w (.slice a1 xn.length c1) xn) (h2:Rd w.heap.size w (.slice a2 xd.length c2) xd) (h3:Rd w.heap.size w (.slice a3 yn.length c3) yn) (h4:Rd w.heap.size w (.slice a4 yd.length c4) yd) :
    NVar ((w.alloc (.cells #[.bool bx,.slice a1 xn.length c1,.slice a2 xd.length c2] 34)).alloc (.cells #[.bool cy,.slice a3 yn.length c3,.slice a4 yd.length c4] 34)) w.heap.size bx a1 xn c1 a2 xd c2 ∧
    NVar ((w.alloc (.cells #[.bool bx,.slice a1 xn.length c1,.slice a2 xd.length c2] 34)).alloc (.cells #[.bool cy,.slice a3 yn.length c3,.slice a4 yd.length c4] 34)) (w.heap.size+1) cy a3 yn c3 a4 yd c4 ∧
    Below w.heap.size w ((w.alloc (.cells #[.bool bx,.slice a1 xn.length c1,.slice a2 xd.length c2] 34)).alloc (.cells #[.bool cy,.slice a3 yn.length c3,.slice a4 yd.length c4] 34)):=by
 have b1:=below_alloc w (.cells #[.bool bx,.slice a1 xn.length c1,.slice a2 xd.length c2] 34);have X:=nvar_new (b:=bx) h1 h2;have Y:=nvar_new (b:=cy) ((h3.below b1).mono b1.size) ((h4.below b1).mono b1.size);rw [World.size_alloc] at Y;exact ⟨X.below (below_alloc _ _),Y,b1.alloc (by simp) _⟩
end
theorem same_walk (b1 o1 c1 b2 o2 c2 n:Nat) (xs:List Int) (w:World) (hb:n≤9223372036854775807)
    (k1:∀ j,j<n→w.cell? ⟨b1,o1+j,none⟩=some (.int .u32 (xs.getD j 0)))
    (k2:∀ j,j<n→w.cell? ⟨b2,o2+j,none⟩=some (.int .u32 (xs.getD j 0))) :
    Calls Tryz.prog 121 #[.slice (some ⟨b1,o1,none⟩) n c1,.slice (some ⟨b2,o2,none⟩) n c2] w fun e w'=>e=.returned (.bool true)∧∃ q,w'=w.drewN q:=by
 have K1:Hid (∀ j,j<n→w.cell? ⟨b1,o1+j,none⟩=some (.int .u32 (xs.getD j 0))):=k1;have K2:Hid (∀ j,j<n→w.cell? ⟨b2,o2+j,none⟩=some (.int .u32 (xs.getD j 0))):=k2;clear k1 k2;go_enter Tryz.func121,Tryz.ntmps121;go_wp2
 go_loopw [5] (fun s wr=>(∃ q,wr=w.drewN q)∧∃ j:Nat,j≤n∧s=.int .i64 j) (fun s _=>n - (intOf s).toNat)
 case atStart=>exact ⟨⟨0,rfl⟩,0,Nat.zero_le _,rfl⟩
 case round=>
  obtain ⟨⟨q,rfl⟩,j,hj,rfl⟩:=hrel;by_cases hlt:j<n
  · have g1:=K1.out j hlt
    have g2:=K2.out j hlt;generalize xs.getD j 0=p at *;go_wp2
    go_quiet (fail)
    go_wp2
    go_roundw
    case rel=>exact ⟨⟨_,rfl⟩,j+1,by omega,by go_num⟩
    case measure=>simp [intOf];omega
  · go_wp2
    go_ret
    exact ⟨rfl,_,rfl⟩
theorem same_nil (a1 a2:Option Addr) (c1 c2:Nat) (w:World) :
    Calls Tryz.prog 121 #[.slice a1 0 c1,.slice a2 0 c2] w fun e w'=>e=.returned (.bool true)∧w=w':=by
 go_enter Tryz.func121,Tryz.ntmps121;go_wp2
 refine wp_loop_rounds 1 ?_;rw [rounds_succ];go_wp2
 go_ret
 exact ⟨rfl,rfl⟩
/-- Same, of two slices that read as the same limbs: true. -/
theorem same_rd {B B':Nat} {w:World} {v1 v2:Value} {xs:List Int} (h1:Rd B w v1 xs) (h2:Rd B' w v2 xs) :
    Calls Tryz.prog 121 #[v1,v2] w fun e w'=>e=.returned (.bool true)∧Below w.heap.size w w':=by
 obtain ⟨_,a1,c1,rfl,i1,j1,_,f1⟩:=h1;obtain ⟨_,a2,c2,rfl,i2,j2,_,f2⟩:=h2;by_cases h0:xs.length=0
 · rw [h0]
   refine (same_nil a1 a2 c1 c2 w).mono ?_;rintro e w' ⟨rfl,rfl⟩;exact ⟨rfl,Below.refl _ _⟩
 · rcases f1 with f1 | ⟨b1,o1,rfl,_,k1⟩
   · exact absurd f1 h0
   rcases f2 with f2 | ⟨b2,o2,rfl,_,k2⟩
   · exact absurd f2 h0
   refine (same_walk b1 o1 c1 b2 o2 c2 xs.length xs w (by omega) k1 k2).mono ?_;rintro e w' ⟨rfl,q,rfl⟩;exact ⟨rfl,below_drewN' (Below.refl _ _) q⟩
theorem below_undrew {w w':World} {B:Nat} (h:Below B w.drew w'):Below B w w':=⟨h.os,h.tape,h.output,h.size,h.block⟩
section
variable {w w':World} {k j:Nat} {b:Bool} {a1 a2 a3 a4:Option Addr} {ns ds:List Int} {c1 c2 c3 c4:Nat}
theorem NVar.cells (h:NVar w k b a1 ns c1 a2 ds c2):w.cell? ⟨k,0,none⟩=some (.bool b)∧w.cell? ⟨k,1,none⟩=some (.slice a1 ns.length c1)∧w.cell? ⟨k,2,none⟩=some (.slice a2 ds.length c2):=⟨h.k0,h.k1,h.k2⟩
theorem same_rat (h1:Rd w.heap.size w (.slice a1 ns.length c1) ns) (h2:Rd w.heap.size w (.slice a2 ds.length c2) ds) (h3:Rd w.heap.size w (.slice a3 ns.length c3) ns) (h4:Rd w.heap.size w (.slice a4 ds.length c4) ds) :
    Calls Tryz.prog 67 #[.agg #[.bool b,.slice a1 ns.length c1,.slice a2 ds.length c2],.agg #[.bool b,.slice a3 ns.length c3,.slice a4 ds.length c4]] w fun e w'=>e=.returned (.bool true)∧Below w.heap.size w w':=by
 obtain ⟨X,Y,b0⟩:=nvar_in2 (bx:=b) (cy:=b) h1 h2 h3 h4;have x0:=X.k0;have x1:=X.k1;have x2:=X.k2;have y0:=Y.k0;have y1:=Y.k1;have y2:=Y.k2;have hbb:(b==b)=true:=by simp
 go_enter Tryz.func67,Tryz.ntmps67
 go_wp2_with fail
 clear x0 x1 x2 y0 y1 y2;generalize hA:(w.alloc (.cells #[.bool b,.slice a1 ns.length c1,.slice a2 ds.length c2] 34)).alloc (.cells #[.bool b,.slice a3 ns.length c3,.slice a4 ds.length c4] 34)=v at *;clear hA;refine (same_rd X.rn Y.rn).mono ?_;rintro e w1 ⟨rfl,k1⟩;replace X:=X.below k1;replace Y:=Y.below k1;have x2:=X.k2;have y2:=Y.k2
 go_wp2_with fail
 refine (same_rd X.rd Y.rd).mono ?_;rintro e w2 ⟨rfl,k2⟩;go_wp2
 go_ret
 exact ⟨rfl,b0.trans ((k1.mono b0.size).trans (k2.mono (Nat.le_trans b0.size k1.size)))⟩
end
end Go.Proofs.YtheaeggecpfcbaaGreat
