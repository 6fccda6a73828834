/- lex: sorts of characters, and runs of them. -/
import Derived.Test.YtimfnalpmmkndaaGreatDoorJ1
import Derived.Test.YtimfnalpmmkndaaGreatDoorKZ
import Derived.Test.YtimfnalpmmkndaaGreatDoorJ8
import Derived.Test.YtimfnalpmmkndaaGreatDoorJ4
import Derived.Laws.Cover4
import Derived.Deep.Cut
import Derived.Deep.CutRange
import Derived.WalkSmall
set_option linter.unusedVariables false
set_option linter.unusedSimpArgs false
namespace Go.Proofs.YtimfnalpmmkndaaGreatDoor
open Go.RowKit
variable {w w':World} {v:Value} {cs:List Int} {base:Nat}
def bl (c:Int):Bool:=decide (c=32) || decide (c=9)
def dg (c:Int):Bool:=decide (48≤c) && decide (c≤57)
def inn (c:Int):Bool:=dg c || decide (c=46) || decide (c=114)
def RdR (B:Nat) (w:World) (v:Value) (cs:List Int):Prop:=
 ∃ a cap,v=.slice a cs.length cap∧cs.length≤cap∧cap≤9223372036854775807 ∧
  (cs.length=0∨∃ b off,a=some ⟨b,off,none⟩∧b<B∧∀ j,j<cs.length→w.cell? ⟨b,off+j,none⟩=some (.int .i32 (cs.getD j 0)))
theorem RdR.below {B:Nat} (h:RdR B w v cs) (hb:Below B w w'):RdR B w' v cs:=by
 obtain ⟨a,cap,hv,h1,h2,h3⟩:=h;refine ⟨a,cap,hv,h1,h2,?_⟩;rcases h3 with h3 | ⟨b,off,ha,hbB,hc⟩
 · exact Or.inl h3
 · exact Or.inr ⟨b,off,ha,hbB,fun j hj=>(hb.cell (p:=⟨b,off+j,none⟩) hbB).trans (hc j hj)⟩
def runEnd (p:Int→Bool) (cs:List Int) (i:Nat):Nat:=i+((cs.drop i).takeWhile p).length
theorem runEnd_is {p:Int→Bool} {i j:Nat} (hij:i≤j) (hj:j≤cs.length) (h:∀ k,i≤k→k<j→p (cs.getD k 0)=true) (he:j=cs.length∨p (cs.getD j 0)=false):runEnd p cs i=j:=by
 unfold runEnd
 induction hd:j - i generalizing i with
 | zero=>
  obtain rfl:i=j:=by omega
  rcases he with rfl | he
  · simp
  · by_cases hl:i<cs.length
    · rw [List.drop_eq_getElem_cons hl]
      have:cs.getD i 0=cs[i]:=by simp [List.getD,hl]
      rw [this] at he;rw [List.takeWhile_cons,if_neg (by rw [he];decide)];rfl
    · rw [List.drop_eq_nil_of_le (by omega)];simp
 | succ n ih=>
  have hl:i<cs.length:=by omega
  have hp:=h i (Nat.le_refl _) (by omega);have e:cs.getD i 0=cs[i]:=by simp [List.getD,hl]
  rw [e] at hp;rw [List.drop_eq_getElem_cons hl,List.takeWhile_cons,if_pos hp,List.length_cons];have:=ih (i:=i+1) (by omega) (fun k k1 k2=>h k (by omega) k2) (by omega);omega
section
variable {w:World} {base k:Nat} {b:Bool} {ns ds:List Int}
end
section
variable {w:World} {b:Bool} {a1 a2 a3 a4:Option Addr} {c1 c2 c3 c4:Nat} {ns ds:List Int} {base base' k j:Nat}
end
theorem Cuts.fix {l A H A' H':List UInt8} {B B':Bool} {m m':Int} (h:Cuts l B m A H) (k:Cuts l B' m' A' H'):B=B'∧m=m'∧A=A'∧H=H':=by
 obtain ⟨k1,⟨k2,k3,k4,k5⟩ | ⟨x,hx,k2,k3,k4⟩⟩:=k
 · obtain ⟨h1,⟨h2,h3,h4,h5⟩ | ⟨x,hx,h2,h3,h4⟩⟩:=h
   · exact ⟨by rw [h1,k1],by rw [h2,k2],by rw [h3,k3],by rw [h4,k4]⟩
   · exfalso
     rw [← k3] at h3;exact k5 x (by rw [h3];simp) hx
 · obtain ⟨e1,e2,e3⟩:=cuts_unique h hx k3 k4
   exact ⟨h.1.trans k1.symm,e1.trans k2.symm,e2,e3⟩
def PartSpec (B:Bool) (m:Int) (A H:List UInt8) (b:Bool) (ns ds:List Int) (err:Int):Prop:=
 ((¬ isNum A∨(¬ m=0∧¬ isNum H))∧err=22∧b=false∧ns=[]∧ds=[])∨(isNum A∧m=0∧MakeSpec (sg B (dval A)) 1 b ns ds err) ∨
 (isNum A∧isNum H∧m=114∧MakeSpec (sg B (dval A)) (dval H) b ns ds err)∨(isNum A∧isNum H∧m=46∧MakeSpec (sg B ((dval A*10 ^ H.length+dval H:Nat):Int)) ((10 ^ H.length:Nat):Int) b ns ds err)
theorem PartSpec.unique {B:Bool} {m:Int} {A H:List UInt8} {b c:Bool} {ns ds ms es:List Int} {e f:Int} (h:PartSpec B m A H b ns ds e) (k:PartSpec B m A H c ms es f):c=b∧ms=ns∧es=ds∧f=e:=by
 rcases h with ⟨h1,rfl,rfl,rfl,rfl⟩ | ⟨h1,h2,h3⟩ | ⟨h1,h2,h3,h4⟩ | ⟨h1,h2,h3,h4⟩ <;> rcases k with ⟨k1,rfl,rfl,rfl,rfl⟩ | ⟨k1,k2,k3⟩ | ⟨k1,k2,k3,k4⟩ | ⟨k1,k2,k3,k4⟩
 · exact ⟨rfl,rfl,rfl,rfl⟩
 · exfalso;rcases h1 with h | h
   · exact h k1
   · exact h.1 k2
 · exfalso;rcases h1 with h | h
   · exact h k1
   · exact h.2 k2
 · exfalso;rcases h1 with h | h
   · exact h k1
   · exact h.2 k2
 · exfalso;rcases k1 with h | h
   · exact h h1
   · exact h.1 h2
 · exact h3.unique k3
 · omega
 · omega
 · exfalso;rcases k1 with h | h
   · exact h h1
   · exact h.2 h2
 · omega
 · exact h4.unique k4
 · omega
 · exfalso;rcases k1 with h | h
   · exact h h1
   · exact h.2 h2
 · omega
 · omega
 · exact h4.unique k4
def TextSpec (s:ByteArray) (b:Bool) (ns ds:List Int) (err:Int):Prop:=
 (700<Lib.runeCount s∧err=8∧b=false∧ns=[]∧ds=[])∨(¬ 700<Lib.runeCount s∧∃ B m A H,Cuts s.data.toList B m A H∧PartSpec B m A H b ns ds err)
theorem TextSpec.unique {s:ByteArray} {b c:Bool} {ns ds ms es:List Int} {e f:Int} (h:TextSpec s b ns ds e) (k:TextSpec s c ms es f):c=b∧ms=ns∧es=ds∧f=e:=by
 rcases h with ⟨h1,rfl,rfl,rfl,rfl⟩ | ⟨h1,B,m,A,H,h2,h3⟩ <;> rcases k with ⟨k1,rfl,rfl,rfl,rfl⟩ | ⟨k1,B',m',A',H',k2,k3⟩
 · exact ⟨rfl,rfl,rfl,rfl⟩
 · exact absurd h1 k1
 · exact absurd k1 h1
 · obtain ⟨rfl,rfl,rfl,rfl⟩:=h2.fix k2
   exact h3.unique k3
theorem RParses.spec {s:ByteArray} {e:Ending} (h:RParses w s e w'):∃ b ns ds err,Hid (TextSpec s b ns ds err)∧RAns w b ns ds err e w':=by
 obtain ⟨hb,⟨h7,he⟩ | ⟨h7,B,m,A,H,hc,hp⟩⟩:=h
 · exact ⟨false,[],[],8,Or.inl ⟨h7,rfl,rfl,rfl,rfl⟩,hb,none,0,none,0,he,nil_rd _,nil_rd _⟩
 · rcases hp with ⟨h1,he⟩ | ⟨h1,h2,h3⟩ | ⟨h1,h2,h3,h4,he⟩ | ⟨h1,h2,h3,h4,h5⟩ | ⟨h1,h2,h3,h4⟩
   · exact ⟨false,[],[],22,Or.inr ⟨h7,B,m,A,H,hc,Or.inl ⟨h1,rfl,rfl,rfl,rfl⟩⟩,hb,none,0,none,0,he,nil_rd _,nil_rd _⟩
   · obtain ⟨b,ns,ds,err,hs,hr⟩:=h3.spec (by decide)
     exact ⟨b,ns,ds,err,Or.inr ⟨h7,B,m,A,H,hc,Or.inr (Or.inl ⟨h1,h2,hs.out⟩)⟩,hr⟩
   · refine ⟨false,[],[],22,Or.inr ⟨h7,B,m,A,H,hc,Or.inr (Or.inr (Or.inl ⟨h1,h2,h3,Or.inl ⟨?_,rfl,rfl,rfl,rfl⟩⟩))⟩,hb,none,0,none,0,he,nil_rd _,nil_rd _⟩
     rw [h4];rfl
   · obtain ⟨b,ns,ds,err,hs,hr⟩:=h5.spec (by omega)
     exact ⟨b,ns,ds,err,Or.inr ⟨h7,B,m,A,H,hc,Or.inr (Or.inr (Or.inl ⟨h1,h2,h3,hs.out⟩))⟩,hr⟩
   · obtain ⟨b,ns,ds,err,hs,hr⟩:=h4.spec (Int.natCast_pos.2 (Nat.pow_pos (by decide)))
     exact ⟨b,ns,ds,err,Or.inr ⟨h7,B,m,A,H,hc,Or.inr (Or.inr (Or.inr ⟨h1,h2,h3,hs.out⟩))⟩,hr⟩
theorem runEnd_le (p:Int→Bool) (cs:List Int) (i:Nat) (hi:i≤cs.length):i≤runEnd p cs i∧runEnd p cs i≤cs.length:=by
 unfold runEnd;have h:=(List.takeWhile_sublist p (l:=cs.drop i)).length_le;rw [List.length_drop] at h;omega
section
variable {w:World} {cs:List Int} {b off cap:Nat}
end
section
variable {w w':World} {base k R ty:Nat} {b:Bool} {ns ds:List Int} {u0 u1 u2 u3 u4:Value}
theorem BoxA.set34 (h:BoxA w R ty #[u0,u1,u2,u3,u4]) (u v:Value):BoxA ((w.setCell ⟨R,3,none⟩ u).setCell ⟨R,4,none⟩ v) R ty #[u0,u1,u2,u,v]:=by
 unfold BoxA at h ⊢;simp [World.setCell,Array.getElem?_modify,h]
theorem BoxA.set5 (h:BoxA w R ty #[u0,u1,u2,u3,u4]) (v0 v1 v2 v3 v4:Value):BoxA (((((w.setCell ⟨R,0,none⟩ v0).setCell ⟨R,1,none⟩ v1).setCell ⟨R,2,none⟩ v2).setCell ⟨R,3,none⟩ v3).setCell ⟨R,4,none⟩ v4) R ty #[v0,v1,v2,v3,v4]:=by
 unfold BoxA at h ⊢;simp [World.setCell,Array.getElem?_modify,h]
theorem Below.set5 (h:Below base w w') (hB:base≤R) (v0 v1 v2 v3 v4:Value):Below base w (((((w'.setCell ⟨R,0,none⟩ v0).setCell ⟨R,1,none⟩ v1).setCell ⟨R,2,none⟩ v2).setCell ⟨R,3,none⟩ v3).setCell ⟨R,4,none⟩ v4):=
 ((((h.setCell (p:=⟨R,0,none⟩) hB _).setCell (p:=⟨R,1,none⟩) hB _).setCell (p:=⟨R,2,none⟩) hB _).setCell (p:=⟨R,3,none⟩) hB _).setCell (p:=⟨R,4,none⟩) hB _
end
section
variable {w:World} {cs:List Int} {b off cap:Nat} {bx:Bool} {xn xd:List Int}
end
def decs (s:ByteArray):Nat→Nat→List Int
 | 0,_=>[]
 | f+1,pos=>if pos<s.size then ((Utf8.decode s pos).1:Int) :: decs s f (pos+(Utf8.decode s pos).2) else []
def OwnR (base:Nat) (w:World) (v:Value) (cs:List Int):Prop:=w.ownsRow base 21 1 v cs.length (cs.map (Value.int .i32))
theorem info_i32:(Tryz.prog.info? 21).map (fun i=>(i.zero,i.size,i.bytes))=some (some (.int .i32 0),1,4):=by kernel_rfl
theorem OwnR.form (h:OwnR base w v cs):∃ a c,v=.slice a cs.length c:=by
 obtain ⟨_,h | ⟨g,cap,cur,hv,_⟩⟩:=h
 · exact ⟨none,0,by rw [h.1,h.2]⟩
 · exact ⟨_,cap,hv⟩
theorem OwnR.below {B:Nat} (h:OwnR base w v cs) (hb:Below B w w') (hB:w.heap.size≤B):OwnR base w' v cs:=by
 obtain ⟨h1,h | ⟨g,cap,cur,hv,hg,hh,r⟩⟩:=h
 · exact ⟨h1,Or.inl h⟩
 · exact ⟨h1,Or.inr ⟨g,cap,cur,hv,hg,by rw [hb.block g (Nat.lt_of_lt_of_le (lt_of_block hh) hB)];exact hh,r⟩⟩
theorem OwnR.rd (h:OwnR base w v cs) (h0:0<cs.length):∃ g cap,v=.slice (some ⟨g,0,none⟩) cs.length cap∧g<w.heap.size∧cs.length≤cap∧cap≤9223372036854775807∧∀ j,j<cs.length→w.cell? ⟨g,0+j,none⟩=some (.int .i32 (cs.getD j 0)):=by
 have hrow:=h;obtain ⟨_,h | ⟨g,cap,cur,hv,hg,hh,h1,h2,_,_⟩⟩:=h
 · omega
 · subst hv
   refine ⟨g,cap,rfl,lt_of_block hh,h1,by unfold maxLen at h2;omega,fun j hj => ?_⟩;have:=hrow.cellAt j (by omega);rw [Nat.zero_add,this];simp [List.getD,hj]
end Go.Proofs.YtimfnalpmmkndaaGreatDoor
