/- A whole table of names, as it is meant. -/
import Derived.Test.YtimfnalpmmkndaaGreatDoorNB
import Derived.Test.YtimfnalpmmkndaaGreatDoorNE
import Derived.Test.YtimfnalpmmkndaaGreatDoorL2
import Derived.Test.YtimfnalpmmkndaaGreatDoorDA
import Derived.Test.YtimfnalpmmkndaaGreatDoorJ5
import Derived.Test.YtimfnalpmmkndaaGreatDoorLA
import Derived.Test.YtimfnalpmmkndaaGreatDoorSA
import Derived.Test.YtimfnalpmmkndaaGreatDoorAN
set_option maxRecDepth 100000
set_option maxHeartbeats 6400000
set_option linter.unusedVariables false
set_option linter.unusedSimpArgs false
namespace Go.Proofs.YtimfnalpmmkndaaGreatDoor
variable {M:Nat→Prop} {w w' a:World} {B ty f c:Nat} {mb:Option Nat} {l:List EntS} {s:ByteArray}
section
open Go.RowKit
structure FrB where
 ls:List ByteArray
 en:List EntB
def fb0:FrB:=⟨[],[]⟩
theorem getD_setG {α:Type} (l:List α) (i j:Nat) (a d:α):(l.set i a).getD j d=if i=j∧j<l.length then a else l.getD j d:=by
 rw [List.getD_eq_getElem?_getD,List.getElem?_set,List.getD_eq_getElem?_getD];by_cases h:i=j
 · subst h
   by_cases h2:i<l.length
   · simp [h2]
   · simp [h2]
 · simp [h]
def frRow:List FRep→List Value
 | []=>[]
 | r :: l=>.slice r.la r.ln r.lc :: .map r.mb :: frRow l
theorem frRow_len:∀ rs:List FRep,(frRow rs).length=rs.length*2
 | []=>rfl
 | _ :: l=>by simp [frRow,frRow_len l];omega
theorem frRow_at:∀ {rs:List FRep} {i:Nat},i<rs.length→(frRow rs)[i*2]? = some (.slice (rs.getD i fr0).la (rs.getD i fr0).ln (rs.getD i fr0).lc)∧(frRow rs)[i*2+1]? = some (.map (rs.getD i fr0).mb)
 | [],_,h=>by simp at h
 | r :: l,0,_=>⟨rfl,rfl⟩
 | r :: l,i+1,h=>by
  have:=frRow_at (rs:=l) (i:=i) (by simpa using h);rw [show (i+1)*2=i*2+1+1 by omega,frRow];simpa using this
theorem frRow_app:∀ a b:List FRep,frRow (a++b)=frRow a++frRow b
 | [],_=>rfl
 | r :: a,b=>by simp [frRow,frRow_app a b]
theorem frRow_take:∀ (rs:List FRep) (k:Nat),(frRow rs).take (k*2)=frRow (rs.take k)
 | [],k=>by simp [frRow]
 | _ :: _,0=>rfl
 | r :: l,k+1=>by rw [show (k+1)*2=k*2+1+1 by omega,frRow];simp [frRow,frRow_take l k]
theorem frRow_set:∀ (rs:List FRep) (k:Nat) (m:Option Nat),k<rs.length→frRow (rs.set k { rs.getD k fr0 with mb:=m })=(frRow rs).set (k*2+1) (.map m)
 | [],_,_,h=>by simp at h
 | r :: l,0,m,_=>rfl
 | r :: l,k+1,m,h=>by
  have:=frRow_set l k m (by simpa using h);rw [show (k+1)*2+1=k*2+1+1+1 by omega];simpa [frRow] using this
theorem frRow_one:∀ (rs:List FRep),∀ u∈frRow rs,u.oneCell'=true
 | [],u,h=>by simp [frRow] at h
 | r :: l,u,h=>by
  simp only [frRow,List.mem_cons] at h;rcases h with rfl | rfl | h
  · rfl
  · rfl
  · exact frRow_one l u h
def DM (M:Nat→Prop) (w:World):Nat→Prop:=fun g=>g<w.heap.size∧¬ M g
def mbA (m0:Option Nat) (rs:List FRep):Nat→Option Nat
 | 0=>m0
 | k+1=>(rs.getD k fr0).mb
def slotA (tb:Nat) (ua:Option Addr):Nat→Addr
 | 0=>⟨tb,0,none⟩
 | k+1=>upA ua k
def posF (T:List FrB) (x:ByteArray):Nat:=match idxF ((T.drop 1).map FrB.ls) x (T.length - 1) with
 | some k=>k+1
 | none=>0
structure TabR (f:Nat) (M:Nat→Prop) (w:World) (tb:Nat) (m0:Option Nat) (ua:Option Addr) (ucap:Nat) (rs:List FRep) (T:List FrB):Prop where
 box:BoxA w tb 77 #[.slice none 0 0,.map m0,.slice ua rs.length ucap]
 row:w.ownsRow 0 74 2 (.slice ua rs.length ucap) rs.length (frRow rs)
 len:T.length=rs.length+1
 ls0:(T.getD 0 fb0).ls=[]
 mt:M tb
 mu:∀ p,ua=some p→M p.block
 mm:∀ i,i<T.length→∀ B,mbA m0 rs i=some B→M B
 lo:∀ g,M g→tb≤g∧g<w.heap.size
 one:∀ i j,i<T.length→j<T.length→∀ B,mbA m0 rs i=some B→mbA m0 rs j=some B→i=j
 loc:∀ k,k<rs.length→(rs.getD k fr0).ln=(T.getD (k+1) fb0).ls.length∧RdT (DM M w) w (.slice (rs.getD k fr0).la (T.getD (k+1) fb0).ls.length (rs.getD k fr0).lc) (T.getD (k+1) fb0).ls
 ents:∀ i,i<T.length→∃ l,FrM w (mbA m0 rs i) l∧EntsIs f (DM M w) w l (T.getD i fb0).en
def TabIs (f:Nat) (M:Nat→Prop) (w:World) (tb:Nat) (T:List FrB):Prop:=∃ m0 ua ucap rs,TabR f M w tb m0 ua ucap rs T
structure KpM (M:Nat→Prop) (w w':World):Prop where
 os:w'.os=w.os
 tape:w'.tape=w.tape
 output:w'.output=w.output
 size:w.heap.size≤w'.heap.size
 block:∀ g,g<w.heap.size→¬ M g→w'.heap[g]? = w.heap[g]?
theorem KpM.refl (M:Nat→Prop) (w:World):KpM M w w:=⟨rfl,rfl,rfl,Nat.le_refl _,fun _ _ _=>rfl⟩
theorem KpM.of_below (h:Below w.heap.size w w'):KpM M w w':=⟨h.os,h.tape,h.output,h.size,fun g hg _=>h.block g hg⟩
theorem KpM.of_kp (h:Kp B w w') (hB:M B):KpM M w w':=⟨h.os,h.tape,h.output,h.size,fun g hg hM=>h.block g hg (fun e=>hM (by rw [e];exact hB))⟩
def NewM (M M':Nat→Prop) (w:World):Prop:=∀ g,M' g→M g∨w.heap.size≤g
theorem NewM.refl (M:Nat→Prop) (w:World):NewM M M w:=fun _ h=>Or.inl h
theorem KpM.trans {M':Nat→Prop} {b c:World} (h:KpM M a b) (k:KpM M' b c) (hn:NewM M M' a):KpM M a c:=
 ⟨k.os.trans h.os,k.tape.trans h.tape,k.output.trans h.output,Nat.le_trans h.size k.size,fun g hg hM=>(k.block g (Nat.lt_of_lt_of_le hg h.size) (fun e=>by
  rcases hn g e with h1 | h1
  · exact hM h1
  · omega)).trans (h.block g hg hM)⟩
theorem KpM.below {C:Nat} (h:KpM M w w') (hC:∀ g,M g→C≤g) (hs:C≤w.heap.size):Below C w w':=⟨h.os,h.tape,h.output,h.size,fun g hg=>h.block g (by omega) (fun e=>by have:=hC g e;omega)⟩
section
variable {f:Nat} {M:Nat→Prop} {w w':World} {tb:Nat} {m0:Option Nat} {ua:Option Addr} {ucap:Nat} {rs:List FRep} {T:List FrB}
theorem own_blockN {base e size n:Nat} {v:Value} {xs:List Value} (h:w.ownsRow base e size v n xs) (hb:∀ g,v.ownBlock=some g→w'.heap[g]? = w.heap[g]?):w'.ownsRow base e size v n xs:=by
 obtain ⟨h1,h2 | ⟨g,cap,cur,rfl,r1,r2,r3⟩⟩:=h
 · exact ⟨h1,Or.inl h2⟩
 · exact ⟨h1,Or.inr ⟨g,cap,cur,rfl,r1,by rw [hb g rfl];exact r2,r3⟩⟩
theorem TabR.ub (h:TabR f M w tb m0 ua ucap rs T) {g:Nat} (hg:(Value.slice ua rs.length ucap).ownBlock=some g):M g∧∃ cur,w.heap[g]? = some (.cells cur 74 (0,0)):=by
 obtain ⟨_,⟨hv,_⟩ | ⟨g',cap,cur,hv,_,r2,_⟩⟩:=h.row
 · obtain ⟨rfl,_,_⟩:=Value.slice.inj hv
   cases hg
 · obtain ⟨rfl,_,_⟩:=Value.slice.inj hv
   cases hg
   exact ⟨h.mu _ rfl,cur,r2⟩
theorem FrM.kept (h:FrM w mb l) (hb:∀ B,mb=some B→w'.heap[B]? = w.heap[B]?):FrM w' mb l:=by
 rcases h with h | ⟨B,h1,h2⟩
 · exact Or.inl h
 · exact Or.inr ⟨B,h1,h2.of_block (hb B h1)⟩
theorem TabR.below (h:TabR f M w tb m0 ua ucap rs T) (k:Below w.heap.size w w'):TabR f M w' tb m0 ua ucap rs T:=by
 have hs:=k.size;have hD:∀ g,DM M w g→DM M w' g:=fun g hg=>⟨by have:=hg.1;omega,hg.2⟩;have ag:Agree (DM M w) w w':=fun g hg=>k.block g hg.1;refine ⟨h.box.below k h.box.lt,own_blockN h.row (fun g hg => ?_),h.len,h.ls0,h.mt,h.mu,h.mm,fun g hg=>⟨(h.lo g hg).1,by have:=(h.lo g hg).2;omega⟩,h.one,fun i hi=>⟨(h.loc i hi).1,(h.loc i hi).2.imp hD ag⟩,fun i hi => ?_⟩
 · obtain ⟨_,cur,hc⟩:=h.ub hg
   exact k.block g (lt_of_block hc)
 · obtain ⟨l,h1,h2⟩:=h.ents i hi
   exact ⟨l,h1.below k,h2.imp hD ag⟩
theorem TabIs.below (h:TabIs f M w tb T) (k:Below w.heap.size w w'):TabIs f M w' tb T:=by
 obtain ⟨m0,ua,ucap,rs,h⟩:=h;exact ⟨m0,ua,ucap,rs,h.below k⟩
theorem getD_mapLs (i:Nat):((T.drop 1).map FrB.ls).getD i []=(T.getD (i+1) fb0).ls:=by
 rw [List.getD_eq_getElem?_getD,List.getElem?_map,List.getElem?_drop,List.getD_eq_getElem?_getD,Nat.add_comm 1 i]
 cases T[i+1]? <;> rfl
theorem TabR.tabL (h:TabR f M w tb m0 ua ucap rs T):TabL w tb ⟨none,0,0,m0⟩ [] ua ucap rs ((T.drop 1).map FrB.ls):=by
 refine ⟨h.box,?_,by have:=h.len;simp;omega,⟨rfl,RdS.nil _ _⟩,fun i hi => ?_⟩
 · have hr:=h.row
   obtain ⟨_,⟨hv,hn⟩ | ⟨g,cap,cur,hv,_,r2,r3,r4,r5,r6⟩⟩:=h.row
   · obtain ⟨rfl,_,rfl⟩:=Value.slice.inj hv
     exact ⟨by omega,by omega,Or.inl (List.eq_nil_of_length_eq_zero hn)⟩
   · obtain ⟨rfl,_,rfl⟩:=Value.slice.inj hv
     refine ⟨r3,r4,Or.inr ⟨g,rfl,lt_of_block r2,fun i hi => ?_⟩⟩;obtain ⟨q1,q2⟩:=frRow_at hi;exact ⟨by rw [World.ownsRow.cellAt hr _ (by omega)];exact q1,by rw [World.ownsRow.cellAt hr _ (by omega)];exact q2⟩
 · rw [getD_mapLs]
   exact ⟨(h.loc i hi).1,(h.loc i hi).2.rd (fun g hg=>hg.1)⟩
theorem TabR.place (h:TabR f M w tb m0 ua ucap rs T) (x:ByteArray):placeF ua tb ((T.drop 1).map FrB.ls) x=slotA tb ua (posF T x):=by
 unfold placeF posF;rw [show ((T.drop 1).map FrB.ls).length=T.length - 1 by simp]
 cases idxF ((T.drop 1).map FrB.ls) x (T.length - 1) <;> rfl
theorem idxF_lt {ls:List (List ByteArray)} {x:ByteArray}:∀ {n k:Nat},idxF ls x n=some k→k<n
 | 0,_,h=>by cases h
 | n+1,k,h=>by
  rw [idxF] at h;by_cases hm:memT x (ls.getD n [])=true
  · rw [if_pos hm] at h;cases h;omega
  · rw [if_neg hm] at h;have:=idxF_lt h;omega
theorem posF_lt (x:ByteArray) (h:0<T.length):posF T x<T.length:=by
 unfold posF
 cases e:idxF ((T.drop 1).map FrB.ls) x (T.length - 1) with
 | none=>exact h
 | some k=>have:=idxF_lt e;show k+1<_;omega
theorem TabR.slot (h:TabR f M w tb m0 ua ucap rs T) {i:Nat} (hi:i<T.length):∃ b o,slotA tb ua i=⟨b,o,none⟩∧w.cell? ⟨b,o+1,none⟩=some (.map (mbA m0 rs i))∧w.frozen? ⟨b,o+1,none⟩=false∧b<w.heap.size∧M b∧∃ cs ty,w.heap[b]? = some (.cells cs ty (0,0)):=by
 cases i with
 | zero=>exact ⟨tb,0,rfl,h.box.cell 1 rfl,h.box.frozen 1,h.box.lt,h.mt,_,_,h.box⟩
 | succ k=>
  have hk:k<rs.length:=by have:=h.len;omega
  have hr:=h.row;obtain ⟨_,⟨hv,hn⟩ | ⟨g,cap,cur,hv,_,r2,r3,r4,r5,r6⟩⟩:=h.row
  · omega
  · obtain ⟨rfl,_,rfl⟩:=Value.slice.inj hv
    refine ⟨g,k*2,rfl,?_,BoxA.frozen r2 _,lt_of_block r2,h.mu _ rfl,_,_,r2⟩;rw [World.ownsRow.cellAt hr _ (by omega)];exact (frRow_at hk).2
theorem TabR.not_map {b:Nat} {cs:Array Value} (h:w.heap[b]? = some (.cells cs ty (0,0))) (hM:MapS w B l):b≠B:=by
 rintro rfl;obtain ⟨E,n,hE,_⟩:=hM;rw [h] at hE
 cases hE
theorem TabR.upd (h:TabR f M w tb m0 ua ucap rs T) {i B:Nat} {l l':List EntS} {L':List EntB} (hi:i<T.length) (hB:mbA m0 rs i=some B) (hM0:MapS w B l) (hk:Kp B w w') (hM:MapS w' B l') (hE:EntsIs f (DM M w') w' l' L'):TabR f M w' tb m0 ua ucap rs (T.set i ⟨(T.getD i fb0).ls,L'⟩):=by
 have hs:=hk.size;have hMB:=h.mm i hi B hB;have hD:∀ g,DM M w g→DM M w' g:=fun g hg=>⟨by have:=hg.1;omega,hg.2⟩;have ag:Agree (DM M w) w w':=fun g hg=>hk.block g hg.1 (fun e=>hg.2 (by rw [e];exact hMB));have hls:∀ j,((T.set i ⟨(T.getD i fb0).ls,L'⟩).getD j fb0).ls=(T.getD j fb0).ls:=fun j=>by
  rw [getD_setG];by_cases e:i=j∧j<T.length
  · rw [if_pos e,e.1]
  · rw [if_neg e]
 refine ⟨h.box.of_blk (hk.block tb h.box.lt (TabR.not_map h.box hM0)),own_blockN h.row (fun g hg => ?_),by simpa using h.len,by rw [hls];exact h.ls0,h.mt,h.mu,fun j hj=>h.mm j (by simpa using hj),fun g hg=>⟨(h.lo g hg).1,by have:=(h.lo g hg).2;omega⟩,fun j k hj hk'=>h.one j k (by simpa using hj) (by simpa using hk'),fun k hk' => ?_,fun j hj => ?_⟩
 · obtain ⟨_,cur,hc⟩:=h.ub hg
   exact hk.block g (lt_of_block hc) (TabR.not_map hc hM0)
 · rw [hls]
   exact ⟨(h.loc k hk').1,(h.loc k hk').2.imp hD ag⟩
 · rw [List.length_set] at hj
   by_cases e:i=j
   · subst e
     refine ⟨l',Or.inr ⟨B,hB,hM⟩,?_⟩;rw [getD_setG,if_pos ⟨rfl,hi⟩];exact hE
   · obtain ⟨l2,h1,h2⟩:=h.ents j hj
     refine ⟨l2,h1.kept (fun B' hB' => ?_),?_⟩
     · rcases h1 with ⟨h1,_⟩ | ⟨B2,h3,h4⟩
       · rw [h1] at hB';cases hB'
       · rw [h3] at hB'
         cases hB'
         exact hk.block B' h4.lt (fun e2=>e (h.one i j hi hj B hB (by rw [h3,e2])))
     · rw [getD_setG,if_neg (fun h'=>e h'.1)]
       exact h2.imp hD ag
theorem boxA_t1 {u0 u1 u2:Value} {R:Nat} (h:BoxA w R ty #[u0,u1,u2]) (u:Value):BoxA (w.setCell ⟨R,1,none⟩ u) R ty #[u0,u,u2]:=by
 unfold BoxA at h ⊢;simp [World.setCell,Array.getElem?_modify,h]
theorem boxA_t2 {u0 u1 u2:Value} {R:Nat} (h:BoxA w R ty #[u0,u1,u2]) (u:Value):BoxA (w.setCell ⟨R,2,none⟩ u) R ty #[u0,u1,u]:=by
 unfold BoxA at h ⊢;simp [World.setCell,Array.getElem?_modify,h]
theorem row_setM {g cap k:Nat} (h:w.ownsRow 0 74 2 (.slice (some ⟨g,0,none⟩) rs.length cap) rs.length (frRow rs)) (hk:k<rs.length) (m:Option Nat):(w.setCell ⟨g,k*2+1,none⟩ (.map m)).ownsRow 0 74 2 (.slice (some ⟨g,0,none⟩) rs.length cap) rs.length (frRow (rs.set k { rs.getD k fr0 with mb:=m })):=by
 obtain ⟨h1,⟨hv,_⟩ | ⟨g',cap',cur,hv,hg,hh,r1,r2,r3,r4⟩⟩:=h
 · cases hv
 · obtain ⟨hv1,_,rfl⟩:=Value.slice.inj hv
   cases hv1
   refine ⟨by rw [frRow_len,List.length_set],Or.inr ⟨g,cap,cur.setIfInBounds (k*2+1) (.map m),rfl,hg,boxA_put hh _ _,r1,r2,by simpa using r3,?_⟩⟩;rw [Array.toList_setIfInBounds,List.take_set,r4,frRow_set _ _ _ hk]
theorem TabR.updN (h:TabR f M w tb m0 ua ucap rs T) {i b o B:Nat} {l':List EntS} {L':List EntB} (hi:i<T.length) (hN:mbA m0 rs i=none) (hb:slotA tb ua i=⟨b,o,none⟩) (hBn:w.heap.size≤B) (hM:MapS w' B l') (hE:EntsIs f (DM (fun g=>M g∨g=B) w') w' l' L')
    (hbk:w'.heap[b]? = (w.setCell ⟨b,o+1,none⟩ (.map (some B))).heap[b]?) (hk:Kp b w w'):TabIs f (fun g=>M g∨g=B) w' tb (T.set i ⟨(T.getD i fb0).ls,L'⟩):=by
 have hs:=hk.size;have hBl:=hM.lt;have hMb:M b:=by
  obtain ⟨b',o',e,_,_,_,hm,_⟩:=h.slot hi;rw [hb] at e
  cases e
  exact hm
 have hD:∀ g,DM M w g→DM (fun g=>M g∨g=B) w' g:=fun g hg=>⟨by have:=hg.1;omega,fun e=>by
  rcases e with e | e
  · exact hg.2 e
  · have:=hg.1;omega⟩
 have ag:Agree (DM M w) w w':=fun g hg=>hk.block g hg.1 (fun e=>hg.2 (by rw [e];exact hMb));have hls:∀ j,((T.set i ⟨(T.getD i fb0).ls,L'⟩).getD j fb0).ls=(T.getD j fb0).ls:=fun j=>by
  rw [getD_setG];by_cases e:i=j∧j<T.length
  · rw [if_pos e,e.1]
  · rw [if_neg e]
 have hlo:∀ g,M g∨g=B→tb≤g∧g<w'.heap.size:=fun g hg=>by
  rcases hg with hg | rfl
  · exact ⟨(h.lo g hg).1,by have:=(h.lo g hg).2;omega⟩
  · exact ⟨by have:=h.box.lt;omega,hBl⟩
 have hmap:∀ j,j<T.length→∀ B',mbA m0 rs j=some B'→w'.heap[B']? = w.heap[B']?∧B'<w.heap.size:=fun j hj B' hB'=>by
  obtain ⟨l2,h1,h2⟩:=h.ents j hj;rcases h1 with ⟨h1,_⟩ | ⟨B2,h3,h4⟩
  · rw [h1] at hB';cases hB'
  · rw [h3] at hB'
    cases hB'
    obtain ⟨b',o',e,_,_,_,_,cs,ty,hcs⟩:=h.slot hi;rw [hb] at e
    cases e
    exact ⟨hk.block B' h4.lt (fun e=>TabR.not_map hcs h4 e.symm),h4.lt⟩
 have hent:∀ j,j<T.length→¬ i=j→∃ l,FrM w' (mbA m0 rs j) l∧EntsIs f (DM (fun g=>M g∨g=B) w') w' l ((T.set i ⟨(T.getD i fb0).ls,L'⟩).getD j fb0).en:=fun j hj e=>by
  obtain ⟨l2,h1,h2⟩:=h.ents j hj;refine ⟨l2,h1.kept (fun B' hB'=>(hmap j hj B' hB').1),?_⟩;rw [getD_setG,if_neg (fun h'=>e h'.1)];exact h2.imp hD ag
 have heni:((T.set i ⟨(T.getD i fb0).ls,L'⟩).getD i fb0).en=L':=by rw [getD_setG,if_pos ⟨rfl,hi⟩]
 cases i with
 | zero=>
  cases hb
  have hN0:m0=none:=hN;subst hN0;refine ⟨some B,ua,ucap,rs,?_,own_blockN h.row (fun g hg => ?_),by simpa using h.len,by rw [hls];exact h.ls0,Or.inl h.mt,fun p hp=>Or.inl (h.mu p hp),fun j hj B' hB' => ?_,hlo,fun j k hj hk' B' h1 h2 => ?_,fun k hk' => ?_,fun j hj => ?_⟩
  · have:=boxA_t1 h.box (.map (some B))
    unfold BoxA at this ⊢;rw [hbk];exact this
  · obtain ⟨_,cur,hc⟩:=h.ub hg
    refine hk.block g (lt_of_block hc) (fun e => ?_);subst e;have:=h.box;unfold BoxA at this;rw [hc] at this
    cases this
  · rw [List.length_set] at hj
    cases j with
    | zero=>cases hB';exact Or.inr rfl
    | succ k=>exact Or.inl (h.mm (k+1) hj B' hB')
  · rw [List.length_set] at hj hk'
    cases j with
    | zero=>
     cases h1
     cases k with
     | zero=>rfl
     | succ k=>have:=(hmap (k+1) hk' B h2).2;omega
    | succ j=>
     cases k with
     | zero=>cases h2;have:=(hmap (j+1) hj B h1).2;omega
     | succ k=>exact h.one _ _ hj hk' B' h1 h2
  · rw [hls]
    exact ⟨(h.loc k hk').1,(h.loc k hk').2.imp hD ag⟩
  · rw [List.length_set] at hj
    cases j with
    | zero=>exact ⟨l',Or.inr ⟨B,rfl,hM⟩,by rw [heni];exact hE⟩
    | succ j=>exact hent (j+1) hj (by omega)
 | succ k=>
  have hkr:k<rs.length:=by have:=h.len;omega
  have hr:=h.row;obtain ⟨_,⟨hv,hn⟩ | ⟨g,cap,cur,hv,_,r2,r3,r4,r5,r6⟩⟩:=h.row
  · omega
  obtain ⟨rfl,_,rfl⟩:=Value.slice.inj hv;obtain ⟨rfl,rfl⟩:g=b∧k*2=o:=by
   have hx:(⟨g,k*2,none⟩:Addr)=⟨b,o,none⟩:=hb;injection hx with h1 h2
   exact ⟨h1,h2⟩
  have hmb:∀ j,mbA m0 (rs.set k { rs.getD k fr0 with mb:=some B }) j=if j=k+1 then some B else mbA m0 rs j:=fun j=>by
   cases j with
   | zero=>rw [if_neg (by omega)];rfl
   | succ j=>
    show ((rs.set k _).getD j fr0).mb=_;rw [getD_setG];by_cases e:k=j
    · subst e;rw [if_pos ⟨rfl,hkr⟩,if_pos rfl]
    · rw [if_neg (fun h'=>e h'.1),if_neg (by omega)];rfl
  have hrl:∀ j,((rs.set k { rs.getD k fr0 with mb:=some B }).getD j fr0).la=(rs.getD j fr0).la∧((rs.set k { rs.getD k fr0 with mb:=some B }).getD j fr0).ln=(rs.getD j fr0).ln∧((rs.set k { rs.getD k fr0 with mb:=some B }).getD j fr0).lc=(rs.getD j fr0).lc:=fun j=>by
   rw [getD_setG];by_cases e:k=j∧j<rs.length
   · rw [if_pos e,e.1];exact ⟨rfl,rfl,rfl⟩
   · rw [if_neg e];exact ⟨rfl,rfl,rfl⟩
  refine ⟨m0,some ⟨g,0,none⟩,ucap,rs.set k { rs.getD k fr0 with mb:=some B },?_,?_,by simpa using h.len,by rw [hls];exact h.ls0,Or.inl h.mt,fun p hp=>Or.inl (h.mu p hp),fun j hj B' hB' => ?_,hlo,fun j j' hj hj' B' h1 h2 => ?_,fun j hj => ?_,fun j hj => ?_⟩
  · rw [List.length_set]
    refine h.box.of_blk (hk.block tb h.box.lt (fun e => ?_));subst e;have:=h.box;unfold BoxA at this;rw [r2] at this
    cases this
  · have:=row_setM hr hkr (some B)
    rw [List.length_set];exact own_blockN this (fun g' hg'=>by cases hg';exact hbk)
  · rw [List.length_set] at hj
    rw [hmb] at hB';by_cases e:j=k+1
    · rw [if_pos e] at hB';cases hB';exact Or.inr rfl
    · rw [if_neg e] at hB';exact Or.inl (h.mm j hj B' hB')
  · rw [List.length_set] at hj hj'
    rw [hmb] at h1 h2;by_cases e:j=k+1
    · by_cases e':j'=k+1
      · omega
      · rw [if_pos e] at h1
        rw [if_neg e'] at h2
        cases h1
        have:=(hmap j' hj' B h2).2;omega
    · by_cases e':j'=k+1
      · rw [if_neg e] at h1
        rw [if_pos e'] at h2
        cases h2
        have:=(hmap j hj B h1).2;omega
      · rw [if_neg e] at h1
        rw [if_neg e'] at h2;exact h.one j j' hj hj' B' h1 h2
  · rw [List.length_set] at hj
    obtain ⟨q1,q2,q3⟩:=hrl j;rw [hls,q1,q2,q3];exact ⟨(h.loc j hj).1,(h.loc j hj).2.imp hD ag⟩
  · rw [List.length_set] at hj
    rw [hmb];by_cases e:j=k+1
    · subst e
      rw [if_pos rfl];exact ⟨l',Or.inr ⟨B,rfl,hM⟩,by rw [heni];exact hE⟩
    · rw [if_neg e]
      exact hent j hj (by omega)
end
theorem tabIs_new (f:Nat) (w:World):TabIs f (fun g=>g=w.heap.size) (w.alloc (.cells #[.slice none 0 0,.map none,.slice none 0 0] 77)) w.heap.size [fb0]:=by
 refine ⟨none,none,0,[],boxA_new w _ _,World.ownsRow_nil _ _ _ _,rfl,rfl,rfl,(fun p hp=>by cases hp),fun i hi B hB => ?_,(fun g hg=>by subst hg;exact ⟨Nat.le_refl _,by simp⟩),fun i j hi hj => ?_,(fun k hk=>by simp at hk),fun i hi => ?_⟩
 · obtain rfl:i=0:=by simp at hi;exact hi
   cases hB
 · intro _ _ _
   simp at hi hj;omega
 · obtain rfl:i=0:=by simp at hi;exact hi
   exact ⟨[],Or.inl ⟨rfl,rfl⟩,trivial⟩
section
variable {f:Nat} {M:Nat→Prop} {w:World} {tb:Nat} {m0:Option Nat} {ua:Option Addr} {ucap:Nat} {rs:List FRep} {T:List FrB}
theorem tabPut (h:TabR f M w tb m0 ua ucap rs T) {i b o:Nat} (hi:i<T.length) (hb:slotA tb ua i=⟨b,o,none⟩) {q:BV} {G:Bd} (hX:BndIs f (DM M w) w q G) (x:ByteArray) :
    Calls Tryz.prog 74 #[.pointer (some ⟨b,o,none⟩),.string x,.agg q.cells] w fun e w'=>e=.returned (.tuple #[])∧∃ M',TabIs f M' w' tb (T.set i ⟨(T.getD i fb0).ls,putB x (cpB G) (T.getD i fb0).en⟩)∧KpM M w w'∧NewM M M' w:=by
 obtain ⟨b',o',e,hc,hf,hbs,hMb,cs,ty,hcs⟩:=h.slot hi;rw [hb] at e
 cases e
 obtain ⟨l,h1,h2⟩:=h.ents i hi;rcases h1 with ⟨h1,rfl⟩ | ⟨B,h1,hM⟩
 · rw [h1] at hc
   refine (frPut_none x hc hf hbs hX (fun g hg=>hg.1) (fun hD=>hD.2 hMb)).mono ?_;rintro e w' ⟨rfl,B,hB,y,hM',hY,hbk,hk⟩;have hL:(T.getD i fb0).en=[]:=by
    cases hx:(T.getD i fb0).en with
    | nil=>rfl
    | cons a b=>rw [hx] at h2;exact h2.elim
   refine ⟨rfl,fun g=>M g∨g=B,?_,KpM.of_kp hk hMb,fun g hg => ?_⟩
   · refine h.updN hi h1 hb hB hM' ?_ hbk hk
     rw [hL];exact ⟨rfl,⟨y,rfl,hY.imp (fun g hg=>⟨hg.1.2,fun e=>by
      rcases e with e | e
      · have:=(h.lo g e).2;have:=hg.1.1;omega
      · exact hg.2 e⟩) (fun _ _=>rfl)⟩,trivial⟩
   · rcases hg with hg | rfl
     · exact Or.inl hg
     · exact Or.inr hB
 · rw [h1] at hc
   have hMB:=h.mm i hi B h1;refine (frPut_some x hc hbs hM hX (fun g hg=>hg.1) (TabR.not_map hcs hM)).mono ?_;rintro e w' ⟨rfl,y,hM',hY,hk⟩;have hs:=hk.size;refine ⟨rfl,M,⟨m0,ua,ucap,rs,h.upd hi h1 hM hk hM' (EntsIs.put x (hY.imp (fun g hg=>⟨hg.2,fun e=>by have:=(h.lo g e).2;have:=hg.1;omega⟩) (fun _ _=>rfl)) (h2.imp (fun g hg=>⟨by have:=hg.1;omega,hg.2⟩) (fun g hg=>hk.block g hg.1 (fun e=>hg.2 (by rw [e];exact hMB)))))⟩,KpM.of_kp hk hMB,NewM.refl _ _⟩
theorem tabGet (h:TabR f M w tb m0 ua ucap rs T) {i b o:Nat} (hi:i<T.length) (hb:slotA tb ua i=⟨b,o,none⟩) (x:ByteArray) :
    Calls Tryz.prog 48 #[.pointer (some ⟨b,o,none⟩),.string x] w fun e w'=>∃ y:BV,e=.returned (.tuple #[.agg y.cells,.bool (hasB x (T.getD i fb0).en)])∧BndIs f (Fr w.heap.size w'.heap.size) w' y (cpB (getB x (T.getD i fb0).en))∧Below w.heap.size w w':=by
 obtain ⟨b',o',e,hc,hf,hbs,hMb,cs,ty,hcs⟩:=h.slot hi;rw [hb] at e
 cases e
 obtain ⟨l,h1,h2⟩:=h.ents i hi;exact frGet_any x hc hbs h1 h2 (fun g hg=>hg.1)
theorem delB_nil (x:ByteArray):delB x []=[]:=rfl
theorem set_same {α:Type} (l:List α) (i:Nat) (d:α):l.set i (l.getD i d)=l:=by
 refine List.ext_getElem? fun j => ?_;rw [List.getElem?_set];by_cases e:i=j
 · subst e
   by_cases h:i<l.length
   · simp [h]
   · simp [h]
 · simp [e]
theorem tabErase (h:TabR f M w tb m0 ua ucap rs T) {i b o:Nat} (hi:i<T.length) (hb:slotA tb ua i=⟨b,o,none⟩) (x:ByteArray) :
    Calls Tryz.prog 46 #[.pointer (some ⟨b,o,none⟩),.string x] w fun e w'=>e=.returned (.bool (hasB x (T.getD i fb0).en))∧TabIs f M w' tb (T.set i ⟨(T.getD i fb0).ls,delB x (T.getD i fb0).en⟩)∧KpM M w w':=by
 obtain ⟨b',o',e,hc,hf,hbs,hMb,cs,ty,hcs⟩:=h.slot hi;rw [hb] at e
 cases e
 obtain ⟨l,h1,h2⟩:=h.ents i hi;refine (frErase_any x hc hbs h1 h2.at13).mono ?_;rintro e w' ⟨rfl,hE⟩;refine ⟨by rw [(h2.get x).1],?_⟩;rcases hE with ⟨hn,hk⟩ | ⟨B,hB,hM',hk⟩
 · have hl:l=[]:=by
    rcases h1 with ⟨_,h1⟩ | ⟨B,h3,_⟩
    · exact h1
    · rw [hn] at h3;cases h3
   subst hl;have hL:(T.getD i fb0).en=[]:=by
    cases hx:(T.getD i fb0).en with
    | nil=>rfl
    | cons a b=>rw [hx] at h2;exact h2.elim
   have e:(⟨(T.getD i fb0).ls,delB x (T.getD i fb0).en⟩:FrB)=T.getD i fb0:=by
    rw [hL,delB_nil,← hL]
   rw [e,set_same];exact ⟨⟨m0,ua,ucap,rs,h.below hk⟩,KpM.of_below hk⟩
 · have hM:MapS w B l:=by
    rcases h1 with ⟨h1,_⟩ | ⟨B2,h3,h4⟩
    · rw [hB] at h1;cases h1
    · rw [hB] at h3;cases h3;exact h4
   have hMB:=h.mm i hi B hB;have hs:=hk.size;exact ⟨⟨m0,ua,ucap,rs,h.upd hi hB hM hk hM' (EntsIs.del x (h2.imp (fun g hg=>⟨by have:=hg.1;omega,hg.2⟩) (fun g hg=>hk.block g hg.1 (fun e=>hg.2 (by rw [e];exact hMB)))))⟩,KpM.of_kp hk hMB⟩
theorem und_map:Tryz.prog.underlying 72=some (.map (Tryz.prog.mapKeyOf 72) (Tryz.prog.mapElemOf 72)):=by kernel_rfl
theorem FrM.len (h:FrM w mb l) (ty:TypeId):(Builtin.len_ #[72] ty #[.map mb]).run Tryz.prog w=.ok (.int .i64 l.length) w:=by
 rcases h with ⟨rfl,rfl⟩ | ⟨B,rfl,E,n,hE,hl,_⟩
 · exact run_len_nilMap (P:=Tryz.prog) (w:=w) (t:=72) (ty:=ty) und_map
 · have:=run_len_map (P:=Tryz.prog) (w:=w) (t:=72) (ty:=ty) (r:=B) (es:=E) (clock:=n) und_map hE
   rw [this];have hs:=congrArg List.length hl;simp at hs;simp [goInt,hs]
end
end
section
open Go.RowKit Go.Shelf
attribute [local go_sem] Oper.semAt_some
def cntF:List FrB→Nat
 | []=>0
 | b :: l=>b.en.length+cntF l
theorem cntF_drop {T:List FrB} {i:Nat} (hi:i<T.length):cntF (T.drop i)=(T.getD i fb0).en.length+cntF (T.drop (i+1)):=by
 rw [List.drop_eq_getElem_cons hi,cntF,List.getD_eq_getElem?_getD,List.getElem?_eq_getElem hi];rfl
theorem cntF_le:∀ (T:List FrB) (i:Nat),cntF (T.drop i)≤cntF T
 | [],_=>by simp [cntF]
 | _ :: _,0=>Nat.le_refl _
 | b :: l,i+1=>by
  show cntF (l.drop i)≤b.en.length+cntF l;have:=cntF_le l i;omega
theorem Kp.grownK {c:World} {row:Option Nat} (h:Kp B w a) (hg:a.grownBy c row) (hr:∀ k,row=some k→w.heap.size≤k):Kp B w c:=
 ⟨hg.os.trans h.os,hg.tape.trans h.tape,hg.output.trans h.output,Nat.le_trans h.size hg.size,fun g hl hB=>(hg.block g (Nat.lt_of_lt_of_le hl h.size) (fun e=>by have:=hr g e.symm;omega)).trans (h.block g hl hB)⟩
theorem Kp.setC {i:Nat} (h:Kp B w a) (v:Value):Kp B w (a.setCell ⟨B,i,none⟩ v):=
 ⟨h.os,h.tape,h.output,by simp [World.setCell];exact h.size,fun g hl hB=>by
  rw [show (a.setCell ⟨B,i,none⟩ v).heap[g]? = a.heap[g]? by
   have:¬ B=g:=fun e=>hB e.symm;simp [World.setCell,Array.getElem?_modify,this]]
  exact h.block g hl hB⟩
theorem KeepE.setX {n₀:Nat} {Ex:Nat→Prop} (V:World) (v:Value) (h:n₀≤B) (hE:Ex B):KeepE n₀ Ex V (V.setCell ⟨B,0,none⟩ v):=
 ⟨(Below.refl _ _).setCell (p:=⟨B,0,none⟩) h v,fun g cs t fr h1 h2 h3=>by
  have:¬ B=g:=fun e=>h2 (e ▸ hE);simp [World.setCell,Array.getElem?_modify,this,h3]⟩
theorem Kp.drewK (h:Kp B w a):Kp B w a.drew:=⟨h.os,h.tape,h.output,h.size,h.block⟩
theorem KeepE.drewE {n₀:Nat} {Ex:Nat→Prop} (h:KeepE n₀ Ex w a):KeepE n₀ Ex w a.drew:=⟨h.below.drew,h.cells⟩
theorem keepsFrom_drew {n:Nat} (h:KeepsFrom n w a):KeepsFrom n w a.drew:=⟨h.size,h.same⟩
theorem count_any {tb:Nat} {T:List FrB} (h:TabIs f M w tb T) (hc:cntF T≤1000000) :
    Calls Tryz.prog 77 #[.pointer (some ⟨tb,0,none⟩)] w fun e w'=>e=.returned (.int .i64 (cntF T))∧Below w.heap.size w w':=by
 obtain ⟨m0,ua,ucap,rs,hT⟩:=h;have g1:=below_alloc w (.cells #[.int .i64 0] 3);have BX:=boxA_new w #[.int .i64 0] 3;have hw1:∀ a b:Nat,a+b≤1000000→IntKind.i64.wrap ((b:Int)+(a:Int))=((a+b:Nat):Int):=fun a b hab=>by rw [IntKind.wrap_i64];omega
 refine (callsIn_wide (n:=9)).1 ?_;refine callsIn_of_wp_marks Tryz.func77 rfl trivial ?_ rfl;simp only [Tryz.ntmps77,List.size_toArray,List.length_cons,List.length_nil,Nat.reduceAdd,Nat.reduceSub,Array.replicate_succ,Array.replicate_zero,List.push_toArray,List.append_toArray,List.nil_append,List.cons_append]
 gi_wp2_with fail
 refine ⟨trivial,?_⟩;refine (callsIn_wide.2 (frames_any _ _)).mono ?_;rintro e w2 ⟨rfl,rfl⟩
 gi_wp2_with fail
 have kB:=below_alloc (w.alloc (.cells #[.int .i64 0] 3)) (.cells #[.pointer (some ⟨tb,0,none⟩)] 30);have BT:=boxA_new (w.alloc (.cells #[.int .i64 0] 3)) #[.pointer (some ⟨tb,0,none⟩)] 30;rw [World.size_alloc] at BT;have BX0:=BX.below kB (by simp);have kW0:Below w.heap.size w _:=g1.trans (kB.mono g1.size);have sW0:((w.alloc (.cells #[.int .i64 0] 3)).alloc (.cells #[.pointer (some ⟨tb,0,none⟩)] 30)).heap.size=w.heap.size+1+1:=by simp
 obtain ⟨W0,hW0⟩:∃ W0,(w.alloc (.cells #[.int .i64 0] 3)).alloc (.cells #[.pointer (some ⟨tb,0,none⟩)] 30)=W0:=⟨_,rfl⟩;rw [hW0] at BT BX0 kW0 sW0 ⊢;clear hW0 kB BX g1;have htb:=hT.box.lt;have hT0:=hT.below kW0;have hseq:=frames_pays (w:=W0) (rs:=rs) (F0:=⟨none,0,0,m0⟩) (ua:=ua) (ucap:=ucap) (tb:=tb) (Tn:=w.heap.size+1) (n₀:=w.heap.size) (hi:=W0.heap.size+2) (Ex:=fun g=>g=w.heap.size) 8 (by omega) BT (hT.tabL.box.below kW0 htb) (hT.tabL.up.below kW0 (Nat.le_refl _)) htb (by omega) (fun g h=>by omega) (fun h=>by omega);have HSEQ:Hid _:=hseq;have HT:Hid (TabR f M W0 tb m0 ua ucap rs T):=hT0;have hlen:=hT.len;have hHI:∀ g,M g→g<w.heap.size:=fun g hg=>(hT.lo g hg).2;clear hseq hT hT0;refine wpIn_range_paysY rfl (by omega) (gf:=111) (lb:=#[.pointer (some ⟨w.heap.size+1,0,none⟩)]) rfl trivial (enters_of Tryz.func111 (by kernel_rfl) rfl)
  HSEQ.out
  (fun h h'=>h.trans h') (fun W l o o' hl ho hc _=>KeepE.put W l o o' (by omega) ho hc) (Below.refl _ _) (fun _=>rfl)
  (fun pre V=>BoxA V w.heap.size 3 #[.int .i64 (cntF (T.drop (rs.length+1 - pre.length)))]∧Kp w.heap.size W0 V)
  ?hI ⟨by rw [List.length_nil,Nat.sub_zero,List.drop_of_length_le (by omega)];exact BX0,Kp.refl _ _⟩ ?hS
  (fun c pre V=>False) ?hIx
  (fun pre y a' V=>(∃ r,pre++y :: r=placesF ua tb rs.length)∧a'={ tmps:=#[.pointer (some ⟨tb,0,none⟩),undef,.int .i64 0,.pointer (some ⟨w.heap.size,0,none⟩),.pointer (some y),.pointer (some ⟨tb,0,none⟩),.func (.func 111) #[] #[.pointer (some ⟨w.heap.size+1,0,none⟩)],.pointer (some y),undef,undef,undef,undef,undef,undef,undef,undef],defers:=[] })
  ?hAx ?assign ?body ?done ?stop
 case hI=>
  rintro s A B row ⟨h1,h2⟩ hg hrow;exact ⟨boxA_gr h1 hg (fun e=>by have:=(hrow _ e).1;omega),h2.grownK hg (fun k e=>(hrow k e).1)⟩
 case hS=>
  rintro s A B row h hg hrow;exact h
 case hIx=>
  rintro c s A B row h hg hrow;exact h
 case hAx=>
  rintro pre y a' _ A B row h hg hrow;exact h
 case assign=>
  rintro l pre y V K hi hG hK;dsimp only [encA]
  gi_wp2
  exact hK _ _ (KeepsOthers.refl _ |>.from _) (KeepE.refl _ _ _) hi ⟨hG,rfl⟩
 case body=>
  rintro l pre y a' V ⟨hB,hk⟩ ⟨⟨rr,hG⟩,rfl⟩;have s3:=hk.size;obtain ⟨i,hi,rfl,hpi,hpn⟩:∃ i,i<T.length∧y=slotA tb ua i∧rs.length+1 - pre.length=i+1∧rs.length+1 - (pre++[y]).length=i:=by
   rcases places_at hG with ⟨hl,rfl⟩ | ⟨hl,rfl⟩
   · refine ⟨rs.length - 1 - pre.length+1,by omega,rfl,by omega,by simp;omega⟩
   · exact ⟨0,by omega,rfl,by omega,by simp;omega⟩
  obtain ⟨b,o,hs,hcm,_,hbs,hMb,cs,ty,hcs⟩:=HT.out.slot hi;obtain ⟨ll,hF,hE⟩:=HT.out.ents i hi;have hFV:FrM V (mbA m0 rs i) ll:=hF.kept (fun B' hB'=>hk.block B' (by have:=(HT.out.lo B' (HT.out.mm i hi B' hB')).2;omega) (fun e=>by have:=hHI B' (HT.out.mm i hi B' hB');omega));have hln:=(hFV.kept (w':=V.drew) (fun _ _=>rfl)).len;rw [hE.len] at hln;have hcV:=hk.cell (g:=b) (o:=o+1) (fun e=>by have:=hHI b hMb;omega) hcm;have cB:=hB.cell 0 rfl;have fB:=hB.frozen 0;have HC:Hid (cntF (T.drop i)=(T.getD i fb0).en.length+cntF (T.drop (i+1))):=cntF_drop hi;have HLE:Hid (cntF (T.drop i)≤cntF T):=cntF_le T i;rw [hpi] at cB;have hwr:IntKind.i64.wrap ((cntF (T.drop (i+1)):Int)+((T.getD i fb0).en.length:Int))=((T.getD i fb0).en.length:Int)+(cntF (T.drop (i+1)):Int):=by rw [← Int.natCast_add];exact hw1 (T.getD i fb0).en.length (cntF (T.drop (i+1))) (by have:=HC.out;have:=HLE.out;omega)
  rw [hs] at hpn ⊢;have HBN:Hid (BoxA (V.setCell ⟨w.heap.size,0,none⟩ (.int .i64 (((T.getD i fb0).en.length:Int)+(cntF (T.drop (i+1)):Int)))).drew w.heap.size 3 #[.int .i64 (cntF (T.drop (rs.length+1 - (pre++[(⟨b,o,none⟩:Addr)]).length)))]):=by
   unfold Hid;rw [hpn,HC.out,Int.natCast_add];exact boxA_p1 hB _
  have HKN:Hid (Kp w.heap.size W0 (V.setCell ⟨w.heap.size,0,none⟩ (.int .i64 (((T.getD i fb0).en.length:Int)+(cntF (T.drop (i+1)):Int)))).drew):=(hk.setC _).drewK;have HKE:Hid (KeepE w.heap.size (fun g=>g=w.heap.size) V (V.setCell ⟨w.heap.size,0,none⟩ (.int .i64 (((T.getD i fb0).en.length:Int)+(cntF (T.drop (i+1)):Int)))).drew):=KeepE.drewE (KeepE.setX (Ex:=fun g=>g=w.heap.size) V _ (Nat.le_refl _) rfl);have HKF:Hid (KeepsFrom W0.heap.size V (V.setCell ⟨w.heap.size,0,none⟩ (.int .i64 (((T.getD i fb0).en.length:Int)+(cntF (T.drop (i+1)):Int)))).drew):=keepsFrom_drew ((KeepsOthers.setCell V ⟨w.heap.size,0,none⟩ _).from W0.heap.size);generalize (T.getD i fb0).en.length=A1 at *;generalize cntF (T.drop (i+1))=A2 at *;clear hB hk hpi hpn hG hE hF hFV hcm hcs HC HLE hs
  gi_wp2_with fail
  gi_region_with fail
  all_goals
   gi_wp2_with fail
   exact ⟨HKF.out,HKE.out,HBN.out,HKN.out⟩
 case done=>
  rintro Dn xs V hDn hS ⟨hB,hk⟩ hdef;have cB:=hB.cell 0 rfl;have HX:Hid (rs.length+1 - xs.length=0):=by unfold Hid;rw [hS];unfold placesF;simp
  rw [HX.out,List.drop_zero] at cB;have HBL:Hid (Below w.heap.size w V):=⟨hk.os.trans kW0.os,hk.tape.trans kW0.tape,hk.output.trans kW0.output,by have:=hk.size;omega,fun g hg=>(hk.block g (by omega) (by omega)).trans (kW0.block g hg)⟩;have s3:=hk.size;clear hB hk hS HX
  gi_wp2
  refine ⟨by simp,.inl ⟨_,_,rfl,run_takeDeferred hdef,?_⟩⟩;have hgp:=grownBy_putObj' V Dn (.deferred none);exact ⟨.int .i64 (cntF T),by simp [results,Tryz.results77,go_sem],rfl,HBL.out.grown hgp (by omega) (fun k e=>by cases e;omega)⟩
 case stop=>
  rintro Dn c xs V hDn hSp h hdef;exact h.elim
end
section
open Go.RowKit
attribute [local go_sem] Oper.semAt_some
def curL (T:List FrB) (x:ByteArray):List EntB:=(T.getD (posF T x) fb0).en
def setE (T:List FrB) (x:ByteArray) (k:Int):Int:=if hasB x (curL T x)=true then (if (getB x (curL T x)).k=k then 0 else 3) else (if 512≤cntF T then 24 else 0)
noncomputable def setT (T:List FrB) (x:ByteArray) (G:Bd):List FrB:=if setE T x G.k=0 then T.set (posF T x) ⟨(T.getD (posF T x) fb0).ls,putB x (cpB G) (curL T x)⟩ else T
def TabAns (f:Nat) (M:Nat→Prop) (w:World) (tb:Nat) (r:Int) (T':List FrB) (e:Ending) (w':World):Prop:=e=.returned (.int .i64 r)∧∃ M',TabIs f M' w' tb T'∧KpM M w w'∧NewM M M' w
theorem BndIs.k_eq {D:Nat→Prop} {x:BV} {b:Bd} (h:BndIs f D w x b):x.k=b.k:=by
 obtain ⟨⟨x1,y1,x2,y2,b1,z1,b2,z2,b3,z3,b4,z4,rfl,h1,h2⟩,hs⟩:=h;rfl
theorem set_any {tb:Nat} {T:List FrB} {q:BV} {G:Bd} (x:ByteArray) (h:TabIs f M w tb T) (hc:cntF T≤1000000) (hX:BndIs f (DM M w) w q G) :
    Calls Tryz.prog 44 #[.pointer (some ⟨tb,0,none⟩),.string x,.agg q.cells] w (TabAns f M w tb (setE T x G.k) (setT T x G)):=by
 obtain ⟨m0,ua,ucap,rs,hT⟩:=h;have e1:=below_alloc w (.cells q.cells 49);have B1:=boxA_new w q.cells 49;have hT1:=hT.below e1;have hp:posF T x<T.length:=posF_lt x (by have:=hT.len;omega);have hqk:=hX.k_eq;go_enter Tryz.func44,Tryz.ntmps44
 go_wp2_with fail
 refine (place_any x hT1.tabL rfl).mono ?_;rintro e w2 ⟨rfl,k2⟩;have s2:=k2.size;rw [World.size_alloc] at s2;have K2:Below w.heap.size w w2:=e1.trans (k2.mono (by simp));have hT2:=hT1.below k2;have B2:=B1.below k2 (by simp);rw [hT2.place];obtain ⟨b,o,hs,hcm,hfr,hbs,hMb,cs,ty,hcs⟩:=hT2.slot hp;obtain ⟨l,hF,hE⟩:=hT2.ents _ hp;obtain ⟨hh,v,hv,hB⟩:=hE.get x;have hget:=hF.get x;rw [hv,hh] at hget;rw [hs];have hvk:=hB.k_eq;have e3:=below_alloc w2 (.cells v.cells 49);have B3:=boxA_new w2 v.cells 49;have B23:=B2.below e3 B2.lt;have HT3:Hid (TabR f M (w2.alloc (.cells v.cells 49)) tb m0 ua ucap rs T):=hT2.below e3;have K3:Below w.heap.size w (w2.alloc (.cells v.cells 49)):=K2.trans (e3.mono K2.size);have HX3:Hid (BndIs f (DM M (w2.alloc (.cells v.cells 49))) (w2.alloc (.cells v.cells 49)) q G):=hX.imp (fun g hg=>⟨by have:=hg.1;have:=K3.size;omega,hg.2⟩) (fun g hg=>K3.block g hg.1);have HK3:Hid (Below w.heap.size w (w2.alloc (.cells v.cells 49))):=K3;have HS:Hid (slotA tb ua (posF T x)=⟨b,o,none⟩):=hs;have HCL:Hid (curL T x=(T.getD (posF T x) fb0).en):=rfl;have HVK:Hid (v.k=(getB x (T.getD (posF T x) fb0).en).k):=hvk;have HQK:Hid (q.k=G.k):=hqk;obtain ⟨H,hH⟩:∃ H,hasB x (T.getD (posF T x) fb0).en=H:=⟨_,rfl⟩;rw [hH] at hget;have HH:Hid (hasB x (T.getD (posF T x) fb0).en=H):=hH;clear hH hv hh hE hF hB hvk hqk hs hT hT1 hT2 hX B1 e1 k2 K3 K2 hcs hMb;have HFIN:Hid (∀ w4 M',TabIs f M' w4 tb (T.set (posF T x) ⟨(T.getD (posF T x) fb0).ls,putB x (cpB G) (T.getD (posF T x) fb0).en⟩)→KpM M w w4→NewM M M' w→setE T x G.k=0→TabAns f M w tb (setE T x G.k) (setT T x G) (.returned (.int .i64 0)) w4):=fun w4 M' h1 h2 h3 h4=>by
  refine ⟨by rw [h4],M',?_,h2,h3⟩;unfold setT;rw [if_pos h4];exact h1
 have HNO:Hid (∀ w4 r,TabIs f M w4 tb T→Below w.heap.size w w4→setE T x G.k=r→¬ r=0→TabAns f M w tb (setE T x G.k) (setT T x G) (.returned (.int .i64 r)) w4):=fun w4 r h1 h2 h3 h4=>by
  refine ⟨by rw [h3],M,?_,KpM.of_below h2,NewM.refl _ _⟩;unfold setT;rw [if_neg (by rw [h3];exact h4)];exact h1
 have y0:=B3.cell 0 rfl;obtain ⟨x0,x1,x2,x3,x4,x5,x6,x7,x8,x9,x10,x11,x12⟩:=cells13 B23
 cases H with
 | true=>
  by_cases hk:v.k=q.k
  · have HE:Hid (setE T x G.k=0):=by
     unfold Hid setE;rw [HCL.out,if_pos HH.out,if_pos (by rw [← HVK.out,hk,HQK.out])]
    have hk2:(v.k==q.k)=true:=by simp [hk]
    clear HH HVK HQK HCL HNO hk
    go_wp2_with fail
    refine (tabPut HT3.out hp HS.out HX3.out x).mono ?_;rintro e w4 ⟨rfl,M',h1,h2,h3⟩;have HF:=HFIN.out w4 M' h1 ((KpM.of_below HK3.out).trans h2 (NewM.refl _ _)) (fun g hg=>by
     rcases h3 g hg with h | h
     · exact Or.inl h
     · exact Or.inr (by have:=HK3.out.size;omega)) HE.out
    have HF':Hid _:=HF;clear HF HFIN HT3 HX3 h1 h2 h3 HK3;go_wp2
    go_ret
    exact HF'.out
  · have hk2:(v.k==q.k)=false:=by rw [beq_eq_false_iff_ne];exact hk
    have HE:Hid (setE T x G.k=3):=by
     unfold Hid setE;rw [HCL.out,if_pos HH.out,if_neg (by rw [← HVK.out,← HQK.out];exact hk)]
    have HF':Hid _:=HNO.out _ 3 ⟨m0,ua,ucap,rs,HT3.out⟩ HK3.out HE.out (by omega);clear HH HVK HQK HCL HNO HFIN HT3 HX3 HK3;go_wp2
    go_ret
    exact HF'.out
 | false=>
  clear HVK HQK
  go_wp2_with fail
  refine (count_any ⟨m0,ua,ucap,rs,HT3.out⟩ hc).mono ?_;rintro e w4 ⟨rfl,k4⟩;have K4:Below w.heap.size w w4:=HK3.out.trans (k4.mono HK3.out.size);by_cases hf:512≤cntF T
  · have hf2:(512:Int)≤(cntF T:Int):=by omega
    have HE:Hid (setE T x G.k=24):=by
     unfold Hid setE;rw [HCL.out,if_neg (by rw [HH.out];simp),if_pos hf]
    have HF':Hid _:=HNO.out w4 24 ⟨m0,ua,ucap,rs,HT3.out.below k4⟩ K4 HE.out (by omega);clear HH HCL HNO HFIN HT3 HX3 HK3 hf K4 k4;go_wp2
    go_ret
    exact HF'.out
  · have hf2:¬ (512:Int)≤(cntF T:Int):=by omega
    have HE:Hid (setE T x G.k=0):=by
     unfold Hid setE;rw [HCL.out,if_neg (by rw [HH.out];simp),if_neg hf]
    have HT4:Hid (TabR f M w4 tb m0 ua ucap rs T):=HT3.out.below k4;have HX4:Hid (BndIs f (DM M w4) w4 q G):=HX3.out.imp (fun g hg=>⟨by have:=hg.1;have:=k4.size;omega,hg.2⟩) (fun g hg=>k4.block g hg.1);have HK4:Hid (Below w.heap.size w w4):=K4;have B24:=B23.below k4 B23.lt;clear HH HCL HNO hf K4 k4 HT3 HX3 HK3 B23 B3 B2 x0 x1 x2 x3 x4 x5 x6 x7 x8 x9 x10 x11 x12;obtain ⟨x0,x1,x2,x3,x4,x5,x6,x7,x8,x9,x10,x11,x12⟩:=cells13 B24
    go_wp2_with fail
    refine (tabPut HT4.out hp HS.out HX4.out x).mono ?_;rintro e w5 ⟨rfl,M',h1,h2,h3⟩;have HF:=HFIN.out w5 M' h1 ((KpM.of_below HK4.out).trans h2 (NewM.refl _ _)) (fun g hg=>by
     rcases h3 g hg with h | h
     · exact Or.inl h
     · exact Or.inr (by have:=HK4.out.size;omega)) HE.out
    have HF':Hid _:=HF;clear HF HFIN HT4 HX4 h1 h2 h3 HK4;go_wp2
    go_ret
    exact HF'.out
end
section
open Go.RowKit
def alT:ByteArray:=⟨#[226,141,186]⟩
def omT:ByteArray:=⟨#[226,141,181]⟩
theorem decode_end (s:ByteArray) (pos:Nat) (hp:pos<s.size):pos+(Utf8.decode s pos).2≤s.size:=by
 have hl:=Lib.decodeL_le _ (drop_ne hp);have hsz:s.data.toList.length=s.size:=by simp
 rw [Lib.decodeL_drop,List.length_drop,hsz] at hl;omega
def nmGo (s:ByteArray):Nat→Nat→Nat→Bool
 | 0,_,c=>decide (0<c)
 | f+1,pos,c=>if pos<s.size then
     if c=32∨(bn ((Utf8.decode s pos).1:Int)=false∧(c=0∨dg ((Utf8.decode s pos).1:Int)=false)) then false else nmGo s f (pos+(Utf8.decode s pos).2) (c+1)
  else decide (0<c)
def nameF (s:ByteArray):Bool:=decide (s=alT) || decide (s=omT) || nmGo s s.size 0 0
theorem nmGo_end {pos:Nat} (h:¬ pos<s.size):nmGo s f pos c=decide (0<c):=by
 cases f with
 | zero=>rfl
 | succ f=>rw [nmGo,if_neg h]
theorem nmGo_fuel:∀ (f g pos c:Nat),s.size≤pos+f→s.size≤pos+g→nmGo s f pos c=nmGo s g pos c
 | 0,g,pos,c,h1,_=>by rw [nmGo_end (f:=0) (by omega),nmGo_end (f:=g) (by omega)]
 | f+1,0,pos,c,_,h2=>by rw [nmGo_end (f:=f+1) (by omega),nmGo_end (f:=0) (by omega)]
 | f+1,g+1,pos,c,h1,h2=>by
  rw [nmGo,nmGo];by_cases hp:pos<s.size
  · have:=Lib.decode_width_pos s pos hp
    rw [if_pos hp,if_pos hp,nmGo_fuel f g _ _ (by omega) (by omega)]
  · rw [if_neg hp,if_neg hp]
theorem nmGo_step {pos:Nat} (hp:pos<s.size) (hf:s.size≤pos+f):nmGo s f pos c=if c=32∨(bn ((Utf8.decode s pos).1:Int)=false∧(c=0∨dg ((Utf8.decode s pos).1:Int)=false)) then false else nmGo s f (pos+(Utf8.decode s pos).2) (c+1):=by
 have hw:=Lib.decode_width_pos s pos hp;obtain ⟨g,rfl⟩:∃ g,f=g+1:=⟨f - 1,by omega⟩;rw [nmGo,if_pos hp,nmGo_fuel g (g+1) _ _ (by omega) (by omega)]
theorem nmBegins_any (c:Int) (w:World):Calls Tryz.prog 30 #[.int .i32 c] w fun e w'=>e=.returned (.bool (bn c))∧w'=w:=by
 go_enter Tryz.func30,Tryz.ntmps30;have hcs:(65≤c∧c≤90)∨(c<65)∨(90<c∧c<97∧¬ c=95)∨c=95∨(97≤c∧c≤122)∨(122<c∧¬ c=8710)∨c=8710:=by omega
 rcases hcs with ⟨h1,h2⟩ | h1 | ⟨h1,h2,h9⟩ | rfl | ⟨h1,h2⟩ | ⟨h1,h9⟩ | rfl
 · have HV:Hid (bn c=true):=by unfold Hid bn lt;simp;omega
   go_wp2
   go_ret
   exact ⟨by rw [HV.out];rfl,rfl⟩
 · have HV:Hid (bn c=false):=by unfold Hid bn lt;simp;omega
   have h3:¬ 65≤c:=by omega
   have h4:¬ 97≤c:=by omega
   have h5:(c==95)=false:=by rw [beq_eq_false_iff_ne];omega
   have h6:(c==8710)=false:=by rw [beq_eq_false_iff_ne];omega
   go_wp2
   go_ret
   exact ⟨by rw [HV.out];rfl,rfl⟩
 · have HV:Hid (bn c=false):=by unfold Hid bn lt;simp;omega
   have h3:65≤c:=by omega
   have h4:¬ c≤90:=by omega
   have h5:¬ 97≤c:=by omega
   have h6:(c==95)=false:=by rw [beq_eq_false_iff_ne];omega
   have h7:(c==8710)=false:=by rw [beq_eq_false_iff_ne];omega
   go_wp2
   go_ret
   exact ⟨by rw [HV.out];rfl,rfl⟩
 · go_wp2
   go_ret
   exact ⟨rfl,rfl⟩
 · have HV:Hid (bn c=true):=by unfold Hid bn lt;simp;omega
   have h3:65≤c:=by omega
   have h4:¬ c≤90:=by omega
   go_wp2
   go_ret
   exact ⟨by rw [HV.out];rfl,rfl⟩
 · have HV:Hid (bn c=false):=by unfold Hid bn lt;simp;omega
   have h3:65≤c:=by omega
   have h4:¬ c≤90:=by omega
   have h5:97≤c:=by omega
   have h8:¬ c≤122:=by omega
   have h6:(c==95)=false:=by rw [beq_eq_false_iff_ne];omega
   have h7:(c==8710)=false:=by rw [beq_eq_false_iff_ne];omega
   go_wp2
   go_ret
   exact ⟨by rw [HV.out];rfl,rfl⟩
 · go_wp2
   go_ret
   exact ⟨rfl,rfl⟩
theorem nmDigit_any (c:Int) (w:World):Calls Tryz.prog 31 #[.int .i32 c] w fun e w'=>e=.returned (.bool (dg c))∧w'=w:=by
 go_enter Tryz.func31,Tryz.ntmps31;have hcs:(48≤c∧c≤57)∨(c<48)∨57<c:=by omega
 rcases hcs with ⟨h1,h2⟩ | h1 | h1
 · have HV:Hid (dg c=true):=by unfold Hid dg;simp;omega
   go_wp2
   go_ret
   exact ⟨by rw [HV.out];rfl,rfl⟩
 · have HV:Hid (dg c=false):=by unfold Hid dg;simp;omega
   have h3:¬ 48≤c:=by omega
   go_wp2
   go_ret
   exact ⟨by rw [HV.out];rfl,rfl⟩
 · have HV:Hid (dg c=false):=by unfold Hid dg;simp;omega
   have h3:48≤c:=by omega
   have h4:¬ c≤57:=by omega
   go_wp2
   go_ret
   exact ⟨by rw [HV.out];rfl,rfl⟩
theorem isName_any (s:ByteArray) (w:World) (hs:s.size≤9223372036854775807) :
    Calls Tryz.prog 9 #[.string s] w fun e w'=>e=.returned (.bool (nameF s))∧Below w.heap.size w w':=by
 obtain ⟨b1,p1⟩:=tx_isD s alT [226,141,186] rfl;obtain ⟨b2,p2⟩:=tx_isD s omT [226,141,181] rfl;obtain ⟨N,hN⟩:∃ N,N=nameF s:=⟨_,rfl⟩;rw [← hN];by_cases h1:s=alT
 · have HV:Hid (N=true):=by unfold Hid;rw [hN];unfold nameF;rw [decide_eq_true h1];rfl
   have q1:=p1.2 h1;rw [decide_eq_true h1] at b1;clear p1 p2 b2 h1 hN;go_enter Tryz.func9,Tryz.ntmps9;go_wp2
   go_ret
   exact ⟨by rw [HV.out];rfl,Below.refl _ _⟩
 have q1:¬ s.toList=[226,141,186]:=fun h=>h1 (p1.1 h);by_cases h2:s=omT
 · have HV:Hid (N=true):=by unfold Hid;rw [hN];unfold nameF;rw [decide_eq_true h2,Bool.or_true];rfl
   have q2:=p2.2 h2;rw [decide_eq_true h2] at b2;rw [decide_eq_false h1] at b1;clear p1 p2 h1 h2 hN;go_enter Tryz.func9,Tryz.ntmps9;go_wp2
   go_ret
   exact ⟨by rw [HV.out];rfl,Below.refl _ _⟩
 have q2:¬ s.toList=[226,141,181]:=fun h=>h2 (p2.1 h);have HV:Hid (N=nmGo s s.size 0 0):=by unfold Hid;rw [hN];unfold nameF;rw [decide_eq_false h1,decide_eq_false h2];rfl
 rw [decide_eq_false h1] at b1;rw [decide_eq_false h2] at b2;clear p1 p2 h1 h2 hN;go_enter Tryz.func9,Tryz.ntmps9;go_wp2
 clear b1 b2 q1 q2
 go_loopw [3] (fun cv wr=>∃ (pos c:Nat),cv=.int .i64 c∧c≤32∧pos≤s.size∧Hid (N=nmGo s s.size pos c)∧wr.heap[w.heap.size]? = some (.stringIter s pos)∧Below w.heap.size w wr) (fun _ wr=>s.size - wr.iterPos w.heap.size)
 case atStart=>exact ⟨0,0,rfl,Nat.zero_le _,Nat.zero_le _,HV,World.iter_heap w s 0,below_alloc w _⟩
 case round=>
  obtain ⟨pos,c,rfl,hc,hps,HN,hit,hb⟩:=hrel;have hsz:w.heap.size<wr.heap.size:=(Array.getElem?_eq_some_iff.1 hit).1;by_cases hp:pos<s.size
  · have hnx:∀ ty,(Instr.next (.pointer (some ⟨w.heap.size,0,none⟩)) true ty).run Tryz.prog wr=_:=fun ty=>Lib.run_next_any_at wr w.heap.size s pos ty hit hp
    have hwd:=Lib.decode_width_pos s pos hp;have hdl:=decode_end s pos hp;have HST:=nmGo_step (s:=s) (f:=s.size) (pos:=pos) (c:=c) hp (by omega);have hit2:=Lib.iterAt_heap wr w.heap.size s pos (pos+(Utf8.decode s pos).2) hit;have hb2:=Lib.below_iterAt hb (k:=w.heap.size) (Nat.le_refl _) s (pos+(Utf8.decode s pos).2);have HQ:Hid (wr.iterPos w.heap.size=pos):=by unfold Hid;simp only [World.iterPos,hit]
    have HST':Hid _:=HST;clear HST;generalize (Utf8.decode s pos).2=n at *;generalize ((Utf8.decode s pos).1:Int)=C at *;generalize wr.iterAt w.heap.size s (pos+n)=W2 at *;clear hit hb;by_cases h32:c=32
    · have HF:Hid (N=false):=by unfold Hid;rw [HN.out,HST'.out,if_pos (Or.inl h32)]
      subst h32;clear HN HST' HQ;go_wp2
      go_ret
      exact ⟨by rw [HF.out];rfl,hb2⟩
    have e32:((c:Int)==32)=false:=by rw [beq_eq_false_iff_ne];omega
    cases hbn:bn C with
    | true=>
     have HI:Hid (N=nmGo s s.size (pos+n) (c+1)):=by
      unfold Hid;rw [HN.out,HST'.out,if_neg];rintro (h | ⟨h,_⟩)
      · exact h32 h
      · rw [hbn] at h;cases h
     have HB:Hid (bn C=true):=hbn;clear HN HST' hbn
     go_wp2_with fail
     refine (nmBegins_any C W2).mono ?_;rintro e w2 ⟨rfl,hw2⟩;obtain rfl:=hw2.symm;rw [HB.out];go_wp2
     go_roundw
     case rel=>exact ⟨pos+n,c+1,by go_num,by omega,hdl,HI,hit2,hb2⟩
     case measure=>
      rw [HQ.out];simp only [World.iterPos,hit2];omega
    | false=>
     have HB:Hid (bn C=false):=hbn;by_cases h0:c=0
     · have HF:Hid (N=false):=by unfold Hid;rw [HN.out,HST'.out,if_pos (Or.inr ⟨hbn,Or.inl h0⟩)]
       subst h0;clear HN HST' HQ hbn
       go_wp2_with fail
       refine (nmBegins_any C W2).mono ?_;rintro e w2 ⟨rfl,hw2⟩;obtain rfl:=hw2.symm;rw [HB.out];go_wp2
       go_ret
       exact ⟨by rw [HF.out];rfl,hb2⟩
     have e00:((c:Int)==0)=false:=by rw [beq_eq_false_iff_ne];omega
     cases hdg:dg C with
     | true=>
      have HI:Hid (N=nmGo s s.size (pos+n) (c+1)):=by
       unfold Hid;rw [HN.out,HST'.out,if_neg];rintro (h | ⟨_,h | h⟩)
       · exact h32 h
       · exact h0 h
       · rw [hdg] at h;cases h
      have HD:Hid (dg C=true):=hdg;clear HN HST' hbn hdg
      go_wp2_with fail
      refine (nmBegins_any C W2).mono ?_;rintro e w2 ⟨rfl,hw2⟩;obtain rfl:=hw2.symm;rw [HB.out]
      go_wp2_with fail
      refine (nmDigit_any C W2).mono ?_;rintro e w3 ⟨rfl,hw3⟩;obtain rfl:=hw3.symm;rw [HD.out];go_wp2
      go_roundw
      case rel=>exact ⟨pos+n,c+1,by go_num,by omega,hdl,HI,hit2,hb2⟩
      case measure=>
       rw [HQ.out];simp only [World.iterPos,hit2];omega
     | false=>
      have HF:Hid (N=false):=by unfold Hid;rw [HN.out,HST'.out,if_pos (Or.inr ⟨hbn,Or.inr hdg⟩)]
      have HD:Hid (dg C=false):=hdg;clear HN HST' HQ hbn hdg
      go_wp2_with fail
      refine (nmBegins_any C W2).mono ?_;rintro e w2 ⟨rfl,hw2⟩;obtain rfl:=hw2.symm;rw [HB.out]
      go_wp2_with fail
      refine (nmDigit_any C W2).mono ?_;rintro e w3 ⟨rfl,hw3⟩;obtain rfl:=hw3.symm;rw [HD.out];go_wp2
      go_ret
      exact ⟨by rw [HF.out];rfl,hb2⟩
  · have hnx:∀ ty,(Instr.next (.pointer (some ⟨w.heap.size,0,none⟩)) true ty).run Tryz.prog wr=_:=fun ty=>Lib.run_next_end_at wr w.heap.size s pos ty hit hp
    have HF:Hid (N=decide (0<c)):=by unfold Hid;rw [HN.out,nmGo_end hp]
    clear HN;by_cases h0:0<c
    · have h0':(0:Int)<(c:Int):=by omega
      rw [decide_eq_true h0] at HF;go_wp2
      go_ret
      exact ⟨by rw [HF.out];rfl,hb⟩
    · have h0':¬ (0:Int)<(c:Int):=by omega
      rw [decide_eq_false h0] at HF;go_wp2
      go_ret
      exact ⟨by rw [HF.out];rfl,hb⟩
theorem areNames_any {a:Option Addr} {ss:List ByteArray} (h:RdS B w (.slice a ss.length c) ss) (hB:B≤w.heap.size) (hsz:∀ x∈ss,x.size≤9223372036854775807) :
    Calls Tryz.prog 41 #[.slice a ss.length c] w fun e w'=>e=.returned (.bool (ss.all nameF))∧Below w.heap.size w w':=by
 have HR:Hid (RdS B w (.slice a ss.length c) ss):=h;obtain ⟨hc1,hc2⟩:=h.cap;have HSZ:Hid (∀ j,j<ss.length→(ss.getD j noT).size≤9223372036854775807):=fun j hj=>hsz _ (by rw [List.getD_eq_getElem?_getD,List.getElem?_eq_getElem hj];exact List.getElem_mem hj);obtain ⟨N,hN⟩:∃ N,N=ss.all nameF:=⟨_,rfl⟩;rw [← hN];have HNN:Hid (N=ss.all nameF):=hN;clear h hsz hN;go_enter Tryz.func41,Tryz.ntmps41;go_wp2
 go_loopw [7] (fun iv wr=>∃ i:Nat,i≤ss.length∧iv=.int .i64 i∧Hid (N=(ss.drop i).all nameF)∧Below w.heap.size w wr) (fun iv _=>ss.length - (intOf iv).toNat)
 case atStart=>exact ⟨0,Nat.zero_le _,rfl,HNN,Below.refl _ _⟩
 case round=>
  obtain ⟨i,hi,rfl,HN,hb⟩:=hrel;by_cases hlt:i<ss.length
  · obtain ⟨g,o,rfl,hg,hc⟩:=HR.out.ptr (by omega)
    have q:=(hb.cell (p:=⟨g,o+i,none⟩) (by show g<_;omega)).trans (hc i hlt);have i1:(i:Int)<(ss.length:Int):=by omega
    have HS:Hid (N=(nameF (ss.getD i noT) && (ss.drop (i+1)).all nameF)):=by
     unfold Hid;rw [HN.out,List.drop_eq_getElem_cons hlt,List.all_cons,List.getD_eq_getElem?_getD,List.getElem?_eq_getElem hlt];rfl
    have hxs:=HSZ.out i hlt;generalize ss.getD i noT=x at *;clear hc HN
    go_wp2_with fail
    refine (isName_any x wr hxs).mono ?_;rintro e w1 ⟨rfl,k1⟩;have g1:Below w.heap.size w w1:=hb.trans (k1.mono hb.size)
    cases hx:nameF x with
    | true=>
     have HN2:Hid (N=(ss.drop (i+1)).all nameF):=by unfold Hid;rw [HS.out,hx];rfl
     clear hx HS;go_wp2
     go_roundw
     case rel=>exact ⟨i+1,by omega,by go_num,HN2,g1⟩
     case measure=>simp [intOf];omega
    | false=>
     have HF:Hid (N=false):=by unfold Hid;rw [HS.out,hx];rfl
     clear hx HS;go_wp2
     go_ret
     exact ⟨by rw [HF.out];rfl,g1⟩
  · have i1:¬ (i:Int)<(ss.length:Int):=by omega
    have HF:Hid (N=true):=by unfold Hid;rw [HN.out,List.drop_of_length_le (by omega)];rfl
    go_wp2
    go_ret
    exact ⟨by rw [HF.out];rfl,hb⟩
attribute [local go_sem] Oper.semAt_some
def varB (t:Tr):Bd:={ bd0 with k:=2,t:=t }
def labB (n:Int):Bd:={ bd0 with k:=1,ln:=n }
section
variable {f:Nat} {M:Nat→Prop} {w w2:World} {tb:Nat} {T:List FrB}
theorem TabAns.from {r:Int} {T':List FrB} {e:Ending} (h:TabAns f M w2 tb r T' e w') (k:Below w.heap.size w w2):TabAns f M w tb r T' e w':=by
 obtain ⟨h1,M',h2,h3,h4⟩:=h;exact ⟨h1,M',h2,(KpM.of_below k).trans h3 (NewM.refl _ _),fun g hg=>by
  rcases h4 g hg with h | h
  · exact Or.inl h
  · exact Or.inr (by have:=k.size;omega)⟩
theorem TabAns.no {r:Int} (h:TabIs f M w tb T) (k:Below w.heap.size w w'):TabAns f M w tb r T (.returned (.int .i64 r)) w':=⟨rfl,M,h.below k,KpM.of_below k,NewM.refl _ _⟩
noncomputable def setVarE (T:List FrB) (x:ByteArray) (t:Tr):Int:=if nameF x=true then (if (measF 16 t).isSome=true then setE T x 2 else 22) else 27
noncomputable def setVarT (T:List FrB) (x:ByteArray) (t:Tr):List FrB:=if nameF x=true∧(measF 16 t).isSome=true then setT T x (varB t) else T
theorem setVar_any {D:Nat→Prop} {x1 x2:Option Addr} {y1 y2:Nat} {t:Tr} (x:ByteArray) (hsz:x.size≤9223372036854775807) (h:TabIs f M w tb T) (hc:cntF T≤1000000) (hD:∀ g,D g→DM M w g) (hA:ArV (f+1) D w (.slice x1 t.ns.length y1) (.slice x2 t.kids.length y2) t) :
    Calls Tryz.prog 16 #[.pointer (some ⟨tb,0,none⟩),.string x,.agg #[.slice x1 t.ns.length y1,.slice x2 t.kids.length y2]] w (TabAns f M w tb (setVarE T x t) (setVarT T x t)):=by
 have e1:=below_alloc w (.cells #[.slice x1 t.ns.length y1,.slice x2 t.kids.length y2] 29);have B1:=boxA_new w #[.slice x1 t.ns.length y1,.slice x2 t.kids.length y2] 29;have HT:Hid (TabIs f M w tb T):=h;have HA:Hid (ArV (f+1) D w (.slice x1 t.ns.length y1) (.slice x2 t.kids.length y2) t):=hA;clear h hA;go_enter Tryz.func16,Tryz.ntmps16
 go_wp2_with fail
 refine (isName_any x _ hsz).mono ?_;rintro e w2 ⟨rfl,k2⟩;have K2:Below w.heap.size w w2:=e1.trans (k2.mono (by simp));have B2:=B1.below k2 (by simp)
 cases hn:nameF x with
 | false=>
  have HF:Hid (TabAns f M w tb (setVarE T x t) (setVarT T x t) (.returned (.int .i64 27)) w2):=by
   unfold Hid setVarE setVarT;rw [hn,if_neg (by simp),if_neg (by simp)];exact TabAns.no HT.out K2
  clear hn;go_wp2
  go_ret
  exact HF.out
 | true=>
  have c0:=B2.cell 0 rfl;have c1:=B2.cell 1 rfl;have HA2:=HA.out.agree (w':=w2) (fun g hg=>K2.block g (hD g hg).1);have HNM:Hid (nameF x=true):=hn;clear hn
  go_wp2_with fail
  refine (right3_any (fun g hg=>by have:=(hD g hg).1;have:=K2.size;omega) HA2).mono ?_;rintro e w3 ⟨rfl,k3⟩;have K3:Below w.heap.size w w3:=K2.trans (k3.mono K2.size);have B3:=B2.below k3 B2.lt;have c0:=B3.cell 0 rfl;have c1:=B3.cell 1 rfl
  cases hm:(measF 16 t).isSome with
  | false=>
   have HF:Hid (TabAns f M w tb (setVarE T x t) (setVarT T x t) (.returned (.int .i64 22)) w3):=by
    unfold Hid setVarE setVarT;rw [HNM.out,hm,if_pos rfl,if_neg (by simp),if_neg (by simp)];exact TabAns.no HT.out K3
   clear hm HA2;go_wp2
   go_ret
   exact HF.out
  | true=>
   have HX:Hid (BndIs f (DM M w3) w3 ⟨2,x1,t.ns.length,y1,x2,t.kids.length,y2,⟨#[]⟩,⟨#[]⟩,⟨#[]⟩,⟨#[]⟩,none,0,0,none,0,0,none,0,0,none,0,0,false,0⟩ (varB t)):=
    ⟨⟨x1,y1,x2,y2,none,0,none,0,none,0,none,0,rfl,ArV.imp (fun g hg=>⟨by have:=(hD g hg).1;have:=K3.size;omega,(hD g hg).2⟩) (fun g hg=>K3.block g (hD g hg).1) _ _ _ _ _ (Nat.le_refl _) HA.out,lists4_nil _ _⟩,by simp [shortB,varB,bd0]⟩
   have HT3:Hid (TabIs f M w3 tb T):=HT.out.below K3;have HK3:Hid (Below w.heap.size w w3):=K3;have HE:Hid (setVarE T x t=setE T x 2∧setVarT T x t=setT T x (varB t)):=by
    unfold Hid setVarE setVarT;rw [HNM.out,hm,if_pos rfl,if_pos rfl,if_pos ⟨rfl,rfl⟩];exact ⟨rfl,rfl⟩
   clear hm HA2
   go_wp2_with fail
   refine (set_any x HT3.out hc HX.out).mono ?_;rintro e w4 hR;have HR:Hid (TabAns f M w tb (setVarE T x t) (setVarT T x t) e w4):=by
    unfold Hid;rw [HE.out.1,HE.out.2];exact TabAns.from hR HK3.out
   obtain ⟨rfl,_⟩:=hR;clear HE HX HT3 HK3;go_wp2
   go_ret
   exact HR.out
def setLabE (T:List FrB) (x:ByteArray) (n:Int):Int:=if nameF x=true then (if n<0 then 21 else setE T x 1) else 27
noncomputable def setLabT (T:List FrB) (x:ByteArray) (n:Int):List FrB:=if nameF x=true∧¬ n<0 then setT T x (labB n) else T
theorem setLab_any {n:Int} (x:ByteArray) (hsz:x.size≤9223372036854775807) (h:TabIs f M w tb T) (hc:cntF T≤1000000) :
    Calls Tryz.prog 17 #[.pointer (some ⟨tb,0,none⟩),.string x,.int .i64 n] w (TabAns f M w tb (setLabE T x n) (setLabT T x n)):=by
 have HT:Hid (TabIs f M w tb T):=h;clear h;go_enter Tryz.func17,Tryz.ntmps17
 go_wp2_with fail
 refine (isName_any x _ hsz).mono ?_;rintro e w2 ⟨rfl,K2⟩
 cases hn:nameF x with
 | false=>
  have HF:Hid (TabAns f M w tb (setLabE T x n) (setLabT T x n) (.returned (.int .i64 27)) w2):=by
   unfold Hid setLabE setLabT;rw [hn,if_neg (by simp),if_neg (by simp)];exact TabAns.no HT.out K2
  clear hn;go_wp2
  go_ret
  exact HF.out
 | true=>
  have HNM:Hid (nameF x=true):=hn;clear hn;by_cases hm:n<0
  · have HF:Hid (TabAns f M w tb (setLabE T x n) (setLabT T x n) (.returned (.int .i64 21)) w2):=by
     unfold Hid setLabE setLabT;rw [HNM.out,if_pos rfl,if_pos hm,if_neg (by simp [hm])];exact TabAns.no HT.out K2
    go_wp2
    go_ret
    exact HF.out
  · have HX:Hid (BndIs f (DM M w2) w2 ⟨1,none,0,0,none,0,0,⟨#[]⟩,⟨#[]⟩,⟨#[]⟩,⟨#[]⟩,none,0,0,none,0,0,none,0,0,none,0,0,false,n⟩ (labB n)):=
     ⟨⟨none,0,none,0,none,0,none,0,none,0,none,0,rfl,arV_zero f _ _,lists4_nil _ _⟩,by simp [shortB,labB,bd0]⟩
    have HT3:Hid (TabIs f M w2 tb T):=HT.out.below K2;have HE:Hid (setLabE T x n=setE T x 1∧setLabT T x n=setT T x (labB n)):=by
     unfold Hid setLabE setLabT;rw [HNM.out,if_pos rfl,if_neg hm,if_pos ⟨rfl,hm⟩];exact ⟨rfl,rfl⟩
    go_wp2_with fail
    refine (set_any x HT3.out hc HX.out).mono ?_;rintro e w4 hR;have HR:Hid (TabAns f M w tb (setLabE T x n) (setLabT T x n) e w4):=by
     unfold Hid;rw [HE.out.1,HE.out.2];exact TabAns.from hR K2
    obtain ⟨rfl,_⟩:=hR;clear HE HX HT3;go_wp2
    go_ret
    exact HR.out
theorem tGet_any (x:ByteArray) (h:TabIs f M w tb T) :
    Calls Tryz.prog 22 #[.pointer (some ⟨tb,0,none⟩),.string x] w fun e w'=>∃ y:BV,e=.returned (.tuple #[.agg y.cells,.bool (hasB x (curL T x))])∧BndIs f (Fr w.heap.size w'.heap.size) w' y (cpB (getB x (curL T x)))∧Below w.heap.size w w':=by
 obtain ⟨m0,ua,ucap,rs,hT⟩:=h;have hp:posF T x<T.length:=posF_lt x (by have:=hT.len;omega);obtain ⟨H,hH⟩:∃ H,hasB x (curL T x)=H:=⟨_,rfl⟩;obtain ⟨G,hG⟩:∃ G,getB x (curL T x)=G:=⟨_,rfl⟩;rw [hH,hG];have HH:Hid (hasB x (T.getD (posF T x) fb0).en=H):=hH;have HG:Hid (getB x (T.getD (posF T x) fb0).en=G):=hG;clear hH hG;have e1:=below_alloc w (.cells bnd0 49);have B1:=boxA_new w bnd0 49;have hT1:=hT.below e1;go_enter Tryz.func22,Tryz.ntmps22
 go_wp2_with fail
 refine (place_any x hT1.tabL rfl).mono ?_;rintro e w1 ⟨rfl,k1⟩;have hT2:=hT1.below k1;have s1:=k1.size;rw [World.size_alloc] at s1;rw [hT2.place];obtain ⟨b,o,hs,_⟩:=hT2.slot hp;have HT2:Hid (TabR f M w1 tb m0 ua ucap rs T):=hT2;have HSL:Hid (slotA tb ua (posF T x)=⟨b,o,none⟩):=hs;rw [hs];have B1':=B1.below k1 (by simp);have kw:Below w.heap.size w w1:=e1.trans (k1.mono (by simp));clear hT hT1 hT2 B1 hs
 go_wp2_with fail
 refine (tabGet HT2.out hp HSL.out x).mono ?_;rintro e w2 ⟨y,rfl,hY,q2⟩;have s2:=q2.size;have R:=B1'.below q2 (by omega);rw [HG.out] at hY;rw [HH.out];clear HH HG;have HY:Hid (BndIs f (Fr w1.heap.size w2.heap.size) w2 y (cpB G)):=hY;have K2:=kw.trans (q2.mono (by omega));obtain ⟨x0,x1,x2,x3,x4,x5,x6,x7,x8,x9,x10,x11,x12⟩:=cells13 R;obtain ⟨h0,h1,h2,h3,h4,h5,h6,h7,h8,h9,h10,h11,h12⟩:=frozen13 R;have Z:=set13 R (.int .i64 y.k) (.slice y.a1 y.n1 y.y1) (.slice y.a2 y.n2 y.y2) (.string y.s1) (.string y.s2) (.string y.s3) (.string y.s4) (.slice y.b1 y.m1 y.z1) (.slice y.b2 y.m2 y.z2) (.slice y.b3 y.m3 y.z3) (.slice y.b4 y.m4 y.z4) (.bool y.br) (.int .i64 y.ln);have KZ:=below13 (R:=w.heap.size) K2 (Nat.le_refl _) (.int .i64 y.k) (.slice y.a1 y.n1 y.y1) (.slice y.a2 y.n2 y.y2) (.string y.s1) (.string y.s2) (.string y.s3) (.string y.s4) (.slice y.b1 y.m1 y.z1) (.slice y.b2 y.m2 y.z2) (.slice y.b3 y.m3 y.z3) (.slice y.b4 y.m4 y.z4) (.bool y.br) (.int .i64 y.ln);have AZ:(ch13 w2 w.heap.size (.int .i64 y.k) (.slice y.a1 y.n1 y.y1) (.slice y.a2 y.n2 y.y2) (.string y.s1) (.string y.s2) (.string y.s3) (.string y.s4) (.slice y.b1 y.m1 y.z1) (.slice y.b2 y.m2 y.z2) (.slice y.b3 y.m3 y.z3) (.slice y.b4 y.m4 y.z4) (.bool y.br) (.int .i64 y.ln)).heap.size=w2.heap.size∧∀ g,w.heap.size<g→(ch13 w2 w.heap.size (.int .i64 y.k) (.slice y.a1 y.n1 y.y1) (.slice y.a2 y.n2 y.y2) (.string y.s1) (.string y.s2) (.string y.s3) (.string y.s4) (.slice y.b1 y.m1 y.z1) (.slice y.b2 y.m2 y.z2) (.slice y.b3 y.m3 y.z3) (.slice y.b4 y.m4 y.z4) (.bool y.br) (.int .i64 y.ln)).heap[g]? = w2.heap[g]?:=⟨by simp [World.setCell],fun g hg=>other13 (by omega) _ _ _ _ _ _ _ _ _ _ _ _ _⟩;obtain ⟨w6,hw6⟩:∃ w6,ch13 w2 w.heap.size (.int .i64 y.k) (.slice y.a1 y.n1 y.y1) (.slice y.a2 y.n2 y.y2) (.string y.s1) (.string y.s2) (.string y.s3) (.string y.s4) (.slice y.b1 y.m1 y.z1) (.slice y.b2 y.m2 y.z2) (.slice y.b3 y.m3 y.z3) (.slice y.b4 y.m4 y.z4) (.bool y.br) (.int .i64 y.ln)=w6:=⟨_,rfl⟩;rw [hw6] at Z KZ AZ;dsimp only [ch13] at hw6;have HKZ:Hid (Below w.heap.size w w6):=KZ;have HO:Hid (BndIs f (Fr w.heap.size w6.heap.size) w6 y (cpB G)):=by
  obtain ⟨a1,a2⟩:=AZ;refine HY.out.imp (fun g hg=>⟨by have:=hg.1;omega,by have:=hg.2;omega⟩) (fun g hg=>a2 g (by have:=hg.1;omega))
 clear HY hY K2 KZ AZ q2 B1' e1 k1 kw s2 R HT2 HSL;go_wp2
 obtain ⟨e0,e1,e2,e3,e4,e5,e6,e7,e8,e9,e10,e11,e12⟩:=cells13 Z;refine bodyPost_ret (v:=.tuple #[.agg y.cells,.bool H]) ?_ rfl ⟨y,rfl,HO.out,HKZ.out⟩;simp [results,Tryz.results22,go_sem,e0,e1,e2,e3,e4,e5,e6,e7,e8,e9,e10,e11,e12]
theorem get_nil1 (x:ByteArray) (w:World):(Instr.lookup 72 (.map none) (.string x) false).run Tryz.prog w=.ok (.agg bnd0) w:=by
 have hc:(Instr.checkKey true 10000 9 (.string x)).run Tryz.prog w=.ok () w:=MapKept.run_checkKey (k:=.string x) Tryz.underlying9 (by simp [MapKept.IsKey]) _ 9999;simp [Instr.lookup,run_underlying Tryz.underlying72,hc,MapKept.run_findKey (k:=.string x) (l:=[]) (a:=none) Tryz.underlying9 rfl,zero_bnd w,Result.andThen]
theorem MapS.get1 {P:Program} {mty kt et:TypeId} {k:ByteArray} {z:Value} (hm:P.underlying mty=some (.map kt et)) (hk:P.underlying kt=some .string) (hz:(zeroValue et).run P w=.ok z w) (h:MapS w B l):(Instr.lookup mty (.map (some B)) (.string k) false).run P w=.ok (atS z k l) w:=by
 obtain ⟨E,n,hb,hE,_⟩:=h;have hc:(Instr.checkKey E.isEmpty 10000 kt (.string k)).run P w=.ok () w:=MapKept.run_checkKey (k:=.string k) hk (by simp [MapKept.IsKey]) _ 9999;rcases find_S (k:=k) E.toList l 0 hE with ⟨g1,g2,g3,_⟩ | ⟨j,v,g1,g2,g3,_⟩
 · rw [g3]
   simp [Instr.lookup,run_underlying hm,MapKept.run_getObj_map hb,hc,MapKept.run_findKey hk g1,hz,Result.andThen]
 · rw [g3]
   simp [Instr.lookup,run_underlying hm,MapKept.run_getObj_map hb,hc,MapKept.run_findKey hk g1,Result.andThen]
theorem FrM.get1 (h:FrM w mb l) (x:ByteArray):(Instr.lookup 72 (.map mb) (.string x) false).run Tryz.prog w=.ok (atS (.agg bnd0) x l) w:=by
 rcases h with ⟨rfl,rfl⟩ | ⟨B,rfl,h2⟩
 · exact get_nil1 x w
 · exact h2.get1 Tryz.underlying72 Tryz.underlying9 (zero_bnd w)
theorem fieldK (v:BV) (w:World):(Instr.field 49 (.agg v.cells) 0).run Tryz.prog w=.ok (.int .i64 v.k) w:=by kernel_rfl
theorem tClass_any (x:ByteArray) (h:TabIs f M w tb T) :
    Calls Tryz.prog 25 #[.pointer (some ⟨tb,0,none⟩),.string x] w fun e w'=>e=.returned (.int .i64 (getB x (curL T x)).k)∧Below w.heap.size w w':=by
 obtain ⟨m0,ua,ucap,rs,hT⟩:=h;have hp:posF T x<T.length:=posF_lt x (by have:=hT.len;omega);go_enter Tryz.func25,Tryz.ntmps25
 go_wp2_with fail
 refine (place_any x hT.tabL rfl).mono ?_;rintro e w2 ⟨rfl,k2⟩;have hT2:=hT.below k2;rw [hT2.place];obtain ⟨b,o,hs,hcm,hfr,hbs,hMb,cs,ty,hcs⟩:=hT2.slot hp;obtain ⟨l,hF,hE⟩:=hT2.ents _ hp;obtain ⟨hh,v,hv,hB⟩:=hE.get x;have hget:=hF.get1 x;rw [hv] at hget;rw [hs];have HVK:Hid (v.k=(getB x (curL T x)).k):=hB.k_eq;have hfl:=fieldK v w2;clear hh hv hE hF hB hs hT hT2 hcs;go_wp2
 go_ret
 exact ⟨by rw [HVK.out];rfl,k2⟩
end
end
end Go.Proofs.YtimfnalpmmkndaaGreatDoor
