/- Walking along axes: what is meant; rows of rows of ints. -/
import Derived.Test.YtheaeggecpfcbaaGreatK7
import Derived.Test.YtheaeggecpfcbaaGreatNA
import Derived.Test.YtheaeggecpfcbaaGreatK8
set_option maxRecDepth 100000
set_option linter.unusedVariables false
set_option linter.unusedSimpArgs false
namespace Go.Proofs.YtheaeggecpfcbaaGreat
section
open Go.RowKit
def onw (p s:Int):Int:=if p<0∨s<0 then -1 else p+s
def walkR:List (List Int)→List Int
 | []=>[0]
 | l :: r=>(walkR r).flatMap fun p=>l.map (onw p)
/-- Where one step along each axis leads to, the last axis running fastest. -/
def walkF (ss:List (List Int)):List Int:=walkR ss.reverse
/-- What comes of the last axis behind places along the others. -/
def alongF (l pre:List Int):List Int:=pre.flatMap fun p=>l.map (onw p)
theorem walkF_snoc (ss:List (List Int)) (l:List Int):walkF (ss++[l])=alongF l (walkF ss):=by simp [walkF,walkR,alongF]
theorem alongF_app (l p q:List Int):alongF l (p++q)=alongF l p++alongF l q:=by simp [alongF]
theorem alongF_cons (l:List Int) (x:Int) (q:List Int):alongF l (x :: q)=l.map (onw x)++alongF l q:=by simp [alongF]
theorem alongF_snoc (l pre:List Int) (x:Int):alongF l (pre++[x])=alongF l pre++l.map (onw x):=by simp [alongF]
theorem walkR_empty:∀ {ss:List (List Int)},[]∈ss→walkR ss=[]
 | l :: r,h=>by
  rw [walkR];rcases List.mem_cons.1 h with h | h
  · subst h;simp
  · rw [walkR_empty h];rfl
theorem walkF_empty {ss:List (List Int)} (h:[]∈ss):walkF ss=[]:=walkR_empty (by simpa using h)
/-- Steps that are not too great. -/
def SmallS (ss:List (List Int)):Prop:=ss.length≤100∧∀ l∈ss,∀ s∈l,-9223372036854775808≤s∧s≤281474976710656
theorem walkR_bound:∀ (r:List (List Int)),(∀ l∈r,∀ s∈l,s≤281474976710656)→∀ p∈walkR r,-1≤p∧p≤r.length*281474976710656
 | [],_,p,h=>by
  have h:p=0:=by simpa [walkR] using h
  subst h;simp
 | l :: r,hb,p,h=>by
  rw [walkR,List.mem_flatMap] at h;obtain ⟨q,hq,h⟩:=h;obtain ⟨s,hs,rfl⟩:=List.mem_map.1 h;have h1:=walkR_bound r (fun l h=>hb l (List.mem_cons_of_mem _ h)) q hq;have h2:=hb l (by simp) s hs;unfold onw;rw [List.length_cons]
  split
  · omega
  · omega
theorem SmallS.front {ss:List (List Int)} {l:List Int} (h:SmallS (ss++[l])):SmallS ss:=⟨by have:=h.1;simp at this;omega,fun m hm s hs=>h.2 m (by simp [hm]) s hs⟩
theorem SmallS.place {ss:List (List Int)} (h:SmallS ss) {p:Int} (hp:p∈walkF ss):-1≤p∧p≤28147497671065600:=by
 have h1:=walkR_bound ss.reverse (fun l hl s hs=>(h.2 l (by simpa using hl) s hs).2) p hp;have h2:=h.1;rw [List.length_reverse] at h1;omega
theorem onw_fit {p s:Int} (h1:p≤28147497671065600) (h2:s≤281474976710656):¬ (p<0∨s<0)→0≤p+s∧p+s≤9223372036854775807:=by omega
/-- What comes next, along the last axis. -/
theorem along_next {tt:List (List Int)} {l pre rr:List Int} {x:Int} (h:pre++x :: rr=walkF tt) {i:Nat} (hi:i<l.length):∃ r,(alongF l pre++(l.take i).map (onw x))++onw x (l.getD i 0) :: r=walkF (tt++[l]):=by
 refine ⟨(l.drop (i+1)).map (onw x)++alongF l rr,?_⟩;have e:l.map (onw x)=(l.take i).map (onw x)++onw x (l.getD i 0) :: (l.drop (i+1)).map (onw x):=by
  have e:l=l.take i++l.getD i 0 :: l.drop (i+1):=by
   rw [List.getD_eq_getElem?_getD,List.getElem?_eq_getElem hi,Option.getD_some];simp
  conv=>lhs;rw [e]
  rw [List.map_append,List.map_cons]
 rw [walkF_snoc,← h,alongF_app,alongF_cons,e,List.append_assoc,List.append_assoc,List.cons_append]
theorem take_map_snoc {l:List Int} {x:Int} {i:Nat} (hi:i<l.length):(l.take i).map (onw x)++[onw x (l.getD i 0)]=(l.take (i+1)).map (onw x):=by
 rw [List.take_add_one,List.map_append,List.getElem?_eq_getElem hi,List.getD_eq_getElem?_getD,List.getElem?_eq_getElem hi];rfl
/-- A row of rows of ints lies at a, its rows in blocks that D allows. -/
def Rows2 (D:Nat→Prop) (w:World) (a:Option Addr) (c:Nat) (ss:List (List Int)):Prop:=ss.length≤c∧c≤9223372036854775807∧(ss=[]∨∃ b o,a=some ⟨b,o,none⟩∧D b∧∀ j,j<ss.length→∃ ra rc,w.cell? ⟨b,o+j,none⟩=some (.slice ra (ss.getD j []).length rc)∧RdN D w (.slice ra (ss.getD j []).length rc) (ss.getD j []))
section
variable {D:Nat→Prop} {w w':World} {a:Option Addr} {c:Nat} {ss:List (List Int)}
theorem Rows2.imp {D':Nat→Prop} (h:Rows2 D w a c ss) (hD:∀ g,D g→D' g) (hb:Agree D w w'):Rows2 D' w' a c ss:=by
 obtain ⟨h1,h2,h3⟩:=h;refine ⟨h1,h2,?_⟩;rcases h3 with h3 | ⟨b,o,rfl,hd,hr⟩
 · exact Or.inl h3
 · refine Or.inr ⟨b,o,rfl,hD b hd,fun j hj => ?_⟩
   obtain ⟨ra,rc,e,hR⟩:=hr j hj;exact ⟨ra,rc,(hb.cell hd).trans e,hR.imp hD hb⟩
theorem Rows2.front {l:List Int} (h:Rows2 D w a c (ss++[l])):Rows2 D w a c ss:=by
 obtain ⟨h1,h2,h3⟩:=h;rw [List.length_append,List.length_singleton] at h1;refine ⟨by omega,h2,?_⟩;rcases h3 with h3 | ⟨b,o,rfl,hd,hr⟩
 · simp at h3
 · refine Or.inr ⟨b,o,rfl,hd,fun j hj => ?_⟩
   obtain ⟨ra,rc,e,hR⟩:=hr j (by rw [List.length_append,List.length_singleton];omega);have hg:(ss++[l]).getD j []=ss.getD j []:=by rw [List.getD_eq_getElem?_getD,List.getD_eq_getElem?_getD,List.getElem?_append_left hj]
   rw [hg] at e hR;exact ⟨ra,rc,e,hR⟩
end
end
section
open Go.RowKit Go.Shelf
theorem BoxA.one {W:World} {B ty:Nat} {u:Value} (h:BoxA W B ty #[u]) (v:Value):BoxA (W.setCell ⟨B,0,none⟩ v) B ty #[v]:=by
 unfold BoxA at *;simp [World.setCell,Array.getElem?_modify,h]
theorem walk_any (a:Option Addr) (n c:Nat) (w:World):Calls Tryz.prog 141 #[.slice a n c] w fun e w'=>e=.returned (.func (.func 159) #[] #[.pointer (some ⟨w.heap.size,0,none⟩)])∧w'=w.alloc (.cells #[.slice a n c] 120):=by
 go_enter Tryz.func141,Tryz.ntmps141;go_wp2
 go_ret
 exact ⟨rfl,rfl⟩
theorem onwards_any (p s:Int) (h:¬ (p<0∨s<0)→0≤p+s∧p+s≤9223372036854775807) (w:World):Calls Tryz.prog 160 #[.int .i64 p,.int .i64 s] w fun e w'=>e=.returned (.int .i64 (onw p s))∧w'=w:=by
 by_cases hp:p<0
 · have ho:onw p s = -1:=by unfold onw;rw [if_pos (Or.inl hp)]
   rw [ho];clear h ho;go_enter Tryz.func160,Tryz.ntmps160;go_wp2
   go_ret
   exact ⟨rfl,rfl⟩
 · by_cases hs:s<0
   · have ho:onw p s = -1:=by unfold onw;rw [if_pos (Or.inr hs)]
     rw [ho];clear h ho;go_enter Tryz.func160,Tryz.ntmps160;go_wp2
     go_ret
     exact ⟨rfl,rfl⟩
   · have hn:¬ (p<0∨s<0):=fun h=>h.elim hp hs
     have ho:onw p s=p+s:=by unfold onw;rw [if_neg hn]
     obtain ⟨h0,h1⟩:=h hn;have hw:IntKind.i64.wrap (p+s)=p+s:=by rw [IntKind.wrap_i64];omega
     rw [ho];clear ho hn;go_enter Tryz.func160,Tryz.ntmps160;go_wp2
     go_ret
     exact ⟨rfl,rfl⟩
end
section
open Go.RowKit
theorem noPanic_normal {Q:Exit→Act→World→Prop} {a:Act} {w:World} (h:Q .normal a w):NoPanic Q .normal a w:=h
end
section
open Go.RowKit Go.Shelf
/-- What lay below n₀, and above it all cells but some, and but those of some types. -/
structure KeepV (n₀:Nat) (Ex Ty:Nat→Prop) (W W':World):Prop where
 below:Below n₀ W W'
 cells:∀ g cs t fr,n₀≤g→¬ Ex g→¬ Ty t→W.heap[g]? = some (.cells cs t fr)→W'.heap[g]? = some (.cells cs t fr)
section
variable {n₀:Nat} {Ex Ty:Nat→Prop} {A B C V W:World}
theorem KeepV.refl (n₀:Nat) (Ex Ty:Nat→Prop) (W:World):KeepV n₀ Ex Ty W W:=⟨Below.refl _ _,fun _ _ _ _ _ _ _ h=>h⟩
theorem KeepV.trans (h:KeepV n₀ Ex Ty A B) (k:KeepV n₀ Ex Ty B C):KeepV n₀ Ex Ty A C:=⟨h.below.trans k.below,fun g cs t fr h1 h2 h4 h3=>k.cells g cs t fr h1 h2 h4 (h.cells g cs t fr h1 h2 h4 h3)⟩
theorem KeepV.box {g ty:Nat} {xs:Array Value} (h:KeepV n₀ Ex Ty A B) (hb:BoxA A g ty xs) (h1:n₀≤g) (h2:¬ Ex g) (h3:¬ Ty ty):BoxA B g ty xs:=h.cells g _ _ _ h1 h2 h3 hb
theorem KeepV.of_below (h:Below A.heap.size A B) (hn:n₀≤A.heap.size):KeepV n₀ Ex Ty A B:=⟨h.mono hn,fun g cs t fr _ _ _ hg=>by rw [h.block g (lt_of_block hg)];exact hg⟩
theorem KeepV.grown {row:Option Nat} (h:KeepV n₀ Ex Ty A B) (hg:B.grownBy C row) (hn:n₀≤B.heap.size) (hr:∀ r,row=some r→n₀≤r∧∃ o:Obj,B.heap[r]? = some o∧o.isCells=false):KeepV n₀ Ex Ty A C:=
 ⟨h.below.grown hg hn (fun k e=>(hr k e).1),fun g cs t fr h1 h2 h4 h3=>by
  have hB:=h.cells g cs t fr h1 h2 h4 h3;rw [hg.block g (lt_of_block hB) (fun e=>by
   obtain ⟨_,o,ho,hc⟩:=hr g e.symm;rw [hB] at ho
   cases ho
   cases hc)]
  exact hB⟩
theorem KeepV.put (W:World) (l:Nat) (o o':Obj) (hl:n₀≤l) (ho:W.heap[l]? = some o) (hc:o.isCells=false):KeepV n₀ Ex Ty W (W.putObj l o'):=
 ⟨⟨rfl,rfl,rfl,by simp [World.putObj],fun g hg=>World.putObj_heap_other (by omega)⟩,fun g cs t fr h1 h2 _ h3=>by
  rw [World.putObj_heap_other (fun e=>by
   subst e;rw [h3] at ho
   cases ho
   cases hc)]
  exact h3⟩
theorem KeepV.undrew (h:KeepV n₀ Ex Ty V.drew W):KeepV n₀ Ex Ty V W:=⟨⟨h.below.os,h.below.tape,h.below.output,h.below.size,h.below.block⟩,h.cells⟩
/-- A row of a type that may be turned has grown. -/
theorem KeepV.row {e size n Z:Nat} {v:Value} {xs:List Value} (h:A.grownBy B v.ownBlock) (hn:n₀≤A.heap.size) (ho:A.ownsRow Z e size v n xs) (hZ:n₀≤Z) (he:Ty e):KeepV n₀ Ex Ty A B:=by
 refine ⟨(Below.refl _ A).grown h hn (fun k hk => ?_),fun g cs t fr h1 h2 h4 h3 => ?_⟩
 · have:=(row_own ho k hk).1
   omega
 · rw [h.block g (lt_of_block h3) (fun hk=>by
    obtain ⟨_,hh | ⟨g',cap,cur,rfl,hb,hh,_⟩⟩:=ho
    · rw [hh.1] at hk;cases hk
    · have hk:some g=some g':=hk
      cases hk
      rw [h3] at hh
      cases hh
      exact h4 he)]
   exact h3
theorem KeepV.cell1 (W:World) {g:Nat} (o:Nat) (v:Value) (h1:n₀≤g) (h2:Ex g):KeepV n₀ Ex Ty W (W.setCell ⟨g,o,none⟩ v):=
 ⟨(Below.refl _ W).setCell (p:=⟨g,o,none⟩) h1 v,fun k cs t fr _ h4 _ h5=>by
  have hne:¬ g=k:=fun e=>h4 (e ▸ h2);have e1:(W.setCell ⟨g,o,none⟩ v).heap[k]? = W.heap[k]?:=by simp [World.setCell,Array.getElem?_modify,hne]
  rw [e1];exact h5⟩
end
end
end Go.Proofs.YtheaeggecpfcbaaGreat
