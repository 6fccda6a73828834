/- What is read does not lie in a block of one slice: it stays where that is turned. -/
import Derived.Test.YtimfnalpmmkndaaGreatDoorNF
import Derived.Test.YtimfnalpmmkndaaGreatDoorTA
import Derived.Test.YtimfnalpmmkndaaGreatDoorSA
set_option maxRecDepth 100000
set_option maxHeartbeats 2000000
set_option linter.unusedVariables false
set_option linter.unusedSimpArgs false
namespace Go.Proofs.YtimfnalpmmkndaaGreatDoor
open Go.RowKit
variable {w w':World} {a:Option Addr} {n c f e size i rb:Nat} {v:Value} {xs:List Value} {D D':Nat→Prop} {α:Type}
def OneSl (w:World) (q:Nat):Prop:=∀ o v,w.cell? ⟨q,o,none⟩=some v→o=0∧∃ a n c,v=.slice a n c
theorem oneSl_box {q ty:Nat} (h:BoxA w q ty #[.slice a n c]):OneSl w q:=by
 intro o v hv;unfold BoxA at h;simp only [World.cell?,h] at hv
 cases o with
 | zero=>exact ⟨rfl,a,n,c,by simpa using hv.symm⟩
 | succ o=>simp at hv
section
variable {D:Nat→Prop} {w:World} {q:Nat}
theorem RdT.off (hq:OneSl w q) {v:Value} {ss:List ByteArray} (h:RdT D w v ss):RdT (fun g=>D g∧g≠q) w v ss:=by
 obtain ⟨a,c,rfl,h1,h2,h3,h4⟩:=h;refine ⟨a,c,rfl,h1,h2,h3,?_⟩;by_cases hz:ss=[]
 · exact Or.inl hz
 rcases h4 with h4 | ⟨g,o,rfl,hlt,hc⟩
 · exact Or.inl h4
 · refine Or.inr ⟨g,o,rfl,⟨hlt,fun e => ?_⟩,hc⟩
   subst e;obtain ⟨_,_,_,_,e⟩:=hq _ _ (hc 0 (List.length_pos_iff.2 hz))
   cases e
theorem RdN.off (hq:OneSl w q) {v:Value} {xs:List Int} (h:RdN D w v xs):RdN (fun g=>D g∧g≠q) w v xs:=by
 obtain ⟨h0,a,cap,rfl,h1,h2,h3,h4⟩:=h;refine ⟨h0,a,cap,rfl,h1,h2,h3,?_⟩;by_cases hz:xs.length=0
 · exact Or.inl hz
 rcases h4 with h4 | ⟨b,off,rfl,hlt,hc⟩
 · exact Or.inl h4
 · refine Or.inr ⟨b,off,rfl,⟨hlt,fun e => ?_⟩,hc⟩
   subst e;obtain ⟨_,_,_,_,e⟩:=hq _ _ (hc 0 (by omega))
   cases e
theorem RdL.off (hq:OneSl w q) {v:Value} {xs:List Int} (h:RdL D w v xs):RdL (fun g=>D g∧g≠q) w v xs:=by
 obtain ⟨h0,a,cap,rfl,h1,h2,h3,h4⟩:=h;refine ⟨h0,a,cap,rfl,h1,h2,h3,?_⟩;by_cases hz:xs.length=0
 · exact Or.inl hz
 rcases h4 with h4 | ⟨b,off,rfl,hlt,hc⟩
 · exact Or.inl h4
 · refine Or.inr ⟨b,off,rfl,⟨hlt,fun e => ?_⟩,hc⟩
   subst e;obtain ⟨_,_,_,_,e⟩:=hq _ _ (hc 0 (by omega))
   cases e
theorem RowB.off {C C':Nat→Nat→Nat→Prop} (h:RowB D n v C) (hC:∀ g o j,j<n→C g o j→g≠q∧C' g o j):RowB (fun g=>D g∧g≠q) n v C':=by
 obtain ⟨a,cap,rfl,h1,h2,h3,h4⟩:=h;refine ⟨a,cap,rfl,h1,h2,h3,?_⟩;by_cases hz:n=0
 · exact Or.inl hz
 rcases h4 with h4 | ⟨g,o,rfl,hlt,hc⟩
 · exact Or.inl h4
 · exact Or.inr ⟨g,o,rfl,⟨hlt,(hC g o 0 (by omega) (hc 0 (by omega))).1⟩,fun j hj=>(hC g o j hj (hc j hj)).2⟩
theorem ItV.off (hq:OneSl w q) {P P':Value→Value→Tr→Prop} {a1 a2 a3:Option Addr} {c1 c2 c3:Nat} {t:Tr} (h:ItV P D w a1 c1 a2 c2 a3 c3 t) (hP:∀ v1 v2 t,P v1 v2 t→P' v1 v2 t):ItV P' (fun g=>D g∧g≠q) w a1 c1 a2 c2 a3 c3 t:=
 ⟨h.rn.off hq,h.rd.off hq,h.bx.off (fun g o j hj ⟨x1,n1,y1,x2,n2,y2,e1,e2,e3⟩=>⟨(fun e=>by
  subst e;have:=(hq _ _ e2).1;omega),x1,n1,y1,x2,n2,y2,e1,e2,hP _ _ _ e3⟩)⟩
theorem ArV.off (hq:OneSl w q):∀ (f:Nat) (v1 v2:Value) (t:Tr),ArV f D w v1 v2 t→ArV f (fun g=>D g∧g≠q) w v1 v2 t
 | 0,_,_,_,h=>h.elim
 | f+1,v1,v2,t,h=>⟨h.1.off hq,h.2.off (fun g o j hj ⟨a1,c1,a2,c2,a3,c3,hcs,hv⟩=>⟨(fun e=>by
  subst e;obtain ⟨_,_,_,_,e⟩:=hq _ _ hcs.1
  cases e),a1,c1,a2,c2,a3,c3,hcs,hv.off hq (fun u1 u2 s hs=>ArV.off hq f u1 u2 s hs)⟩)⟩
theorem Lists4.off (hq:OneSl w q) {b1 b2 b3 b4:Option Addr} {z1 z2 z3 z4:Nat} {l1 l2:List ByteArray} {l3:List Int} {l4:List ByteArray} (h:Lists4 D w b1 b2 b3 b4 z1 z2 z3 z4 l1 l2 l3 l4):Lists4 (fun g=>D g∧g≠q) w b1 b2 b3 b4 z1 z2 z3 z4 l1 l2 l3 l4:=⟨h.1.off hq,h.2.1.off hq,h.2.2.1.off hq,h.2.2.2.off hq⟩
theorem BndIs.off (hq:OneSl w q) {f:Nat} {x:BV} {b:Bd} (h:BndIs f D w x b):BndIs f (fun g=>D g∧g≠q) w x b:=by
 obtain ⟨⟨x1,y1,x2,y2,b1,z1,b2,z2,b3,z3,b4,z4,rfl,h1,h2⟩,hs⟩:=h;exact ⟨⟨x1,y1,x2,y2,b1,z1,b2,z2,b3,z3,b4,z4,rfl,h1.off hq,h2.off hq⟩,hs⟩
theorem EntsIs.off (hq:OneSl w q) {f:Nat}:∀ {l:List EntS} {L:List EntB},EntsIs f D w l L→EntsIs f (fun g=>D g∧g≠q) w l L
 | [],[],_=>trivial
 | [],_ :: _,h=>h.elim
 | _ :: _,[],h=>h.elim
 | _ :: _,_ :: _,⟨h1,⟨x,h2,h3⟩,h4⟩=>⟨h1,⟨x,h2,h3.off hq⟩,EntsIs.off hq h4⟩
end
theorem TabIs.turn {M:Nat→Prop} {tb q:Nat} {T:List FrB} (h:TabIs f M w tb T) (hq:OneSl w q) (hM:¬ M q) (k:Kp q w w'):TabIs f M w' tb T:=by
 obtain ⟨m0,ua,ucap,rs,h⟩:=h;have hs:=k.size;have hne:∀ g,M g→g≠q:=fun g hg e=>hM (by rw [← e];exact hg);have hD:∀ g,(DM M w g∧g≠q)→DM M w' g:=fun g hg=>⟨by have:=hg.1.1;omega,hg.1.2⟩;have ag:Agree (fun g=>DM M w g∧g≠q) w w':=fun g hg=>k.block g hg.1.1 hg.2;refine ⟨m0,ua,ucap,rs,h.box.of_blk (k.block tb h.box.lt (hne tb h.mt)),own_blockN h.row (fun g hg => ?_),h.len,h.ls0,h.mt,h.mu,h.mm,fun g hg=>⟨(h.lo g hg).1,by have:=(h.lo g hg).2;omega⟩,h.one,fun i hi=>⟨(h.loc i hi).1,((h.loc i hi).2.off hq).imp hD ag⟩,fun i hi => ?_⟩
 · obtain ⟨hg1,cur,hc⟩:=h.ub hg
   exact k.block g (lt_of_block hc) (hne g hg1)
 · obtain ⟨l,h1,h2⟩:=h.ents i hi
   refine ⟨l,h1.kept (fun B hB => ?_),(h2.off hq).imp hD ag⟩;rcases h1 with ⟨h1,_⟩ | ⟨B2,h3,h4⟩
   · rw [h1] at hB;cases hB
   · rw [h3] at hB
     cases hB
     exact k.block B h4.lt (hne B (h.mm i hi B h3))
theorem rowMonoR {base base':Nat} (h:w.ownsRow base e size v n xs) (hb:base'≤base):w.ownsRow base' e size v n xs:=by
 obtain ⟨h1,h | ⟨g,cap,cur,hv,hg,r⟩⟩:=h
 · exact ⟨h1,Or.inl h⟩
 · exact ⟨h1,Or.inr ⟨g,cap,cur,hv,Nat.le_trans hb hg,r⟩⟩
def RowD (D:Nat→Prop) (w:World) (e size:Nat) (v:Value) (n:Nat) (xs:List Value):Prop:=w.ownsRow 0 e size v n xs∧∀ g,v.ownBlock=some g→D g
theorem RowD.imp (h:RowD D w e size v n xs) (hD:∀ g,D g→D' g) (ag:Agree D w w'):RowD D' w' e size v n xs:=⟨own_blockN h.1 (fun g hg=>ag g (h.2 g hg)),fun g hg=>hD g (h.2 g hg)⟩
theorem RowD.nil:RowD D w e size (.slice none 0 0) 0 []:=⟨World.ownsRow_nil _ _ _ _,fun g hg=>by cases hg⟩
theorem RowD.ptr (h:RowD D w e size (.slice a n c) n xs) (hn:0<n):∃ g,a=some ⟨g,0,none⟩∧D g∧g<w.heap.size∧∀ j,j<n*size→w.cell? ⟨g,j,none⟩=xs[j]?:=by
 have h1:=h.1;obtain ⟨_,⟨hv,hz⟩ | ⟨g,cap,cur,hv,hg,hh,r⟩⟩:=h.1
 · omega
 · obtain ⟨rfl,_,rfl⟩:=Value.slice.inj hv
   exact ⟨g,rfl,h.2 g rfl,lt_of_block hh,fun j hj=>World.ownsRow.cellAt h1 j hj⟩
theorem RowD.cap (h:RowD D w e size (.slice a n c) n xs):n≤c∧c≤9223372036854775807:=by
 obtain ⟨_,⟨hv,hz⟩ | ⟨g,cap,cur,hv,hg,hh,r1,r2,r⟩⟩:=h.1
 · obtain ⟨_,_,rfl⟩:=Value.slice.inj hv
   omega
 · obtain ⟨_,_,rfl⟩:=Value.slice.inj hv
   unfold maxLen at r2;omega
abbrev EV:=ByteArray×BV
def ev0:EV:=(⟨#[]⟩,bv0)
abbrev EV.cells (p:EV):List Value:=[.string p.1,.int .i64 p.2.k,.slice p.2.a1 p.2.n1 p.2.y1,.slice p.2.a2 p.2.n2 p.2.y2,.string p.2.s1,.string p.2.s2,.string p.2.s3,.string p.2.s4,.slice p.2.b1 p.2.m1 p.2.z1,.slice p.2.b2 p.2.m2 p.2.z2,.slice p.2.b3 p.2.m3 p.2.z3,.slice p.2.b4 p.2.m4 p.2.z4,.bool p.2.br,.int .i64 p.2.ln]
def evRow:List EV→List Value
 | []=>[]
 | p :: l=>EV.cells p++evRow l
theorem evRow_app:∀ a b:List EV,evRow (a++b)=evRow a++evRow b
 | [],_=>rfl
 | p :: a,b=>by rw [List.cons_append,evRow,evRow,evRow_app a b,List.append_assoc]
theorem evRow_at:∀ {E:List EV} {i:Nat} (_:i<E.length) {k:Nat} (_:k<14),(evRow E)[i*14+k]? = (EV.cells (E.getD i ev0))[k]?
 | [],_,h,_,_=>by simp at h
 | p :: l,0,_,k,hk=>by rw [evRow,Nat.zero_mul,Nat.zero_add,List.getElem?_append_left (by simpa using hk)];rfl
 | p :: l,i+1,h,k,hk=>by
  rw [evRow,List.getElem?_append_right (by simp;omega),show (i+1)*14+k - (EV.cells p).length=i*14+k by simp;omega,evRow_at (by simpa using h) hk];rfl
theorem evRow_one:∀ (E:List EV),∀ u∈evRow E,u.oneCell'=true
 | [],u,h=>by simp [evRow] at h
 | p :: l,u,h=>by
  rw [evRow,List.mem_append] at h;rcases h with h | h
  · exact List.all_eq_true.1 (show (EV.cells p).all (fun u=>u.oneCell')=true from rfl) u h
  · exact evRow_one l u h
def GoodB (f:Nat) (D:Nat→Prop) (w:World) (x:BV):Prop:=∃ b,BndIs f D w x b∧smF (f+1) b.t
theorem GoodB.imp {x:BV} (h:GoodB f D w x) (hD:∀ g,D g→D' g) (ag:Agree D w w'):GoodB f D' w' x:=by
 obtain ⟨b,h1,h2⟩:=h;exact ⟨b,h1.imp hD ag,h2⟩
theorem smF_zero (f:Nat):smF (f+1) tr0:=⟨by show 0*8≤_;omega,by show 0*96≤_;omega,fun x hx=>by cases hx⟩
theorem goodB_zero (f:Nat) (D:Nat→Prop) (w:World):GoodB f D w bv0:=⟨bd0,bndIs_zero f D w,smF_zero f⟩
structure RF where
 la:Option Addr
 lc:Nat
 ls:List ByteArray
 ea:Option Addr
 ec:Nat
 E:List EV
def rf0:RF:=⟨none,0,[],none,0,[]⟩
def rfRow:List RF→List Value
 | []=>[]
 | r :: l=>.slice r.la r.ls.length r.lc :: .slice r.ea r.E.length r.ec :: rfRow l
theorem rfRow_len:∀ R:List RF,(rfRow R).length=R.length*2
 | []=>rfl
 | _ :: l=>by simp [rfRow,rfRow_len l];omega
theorem rfRow_at:∀ {R:List RF} {i:Nat},i<R.length→(rfRow R)[i*2]? = some (.slice (R.getD i rf0).la (R.getD i rf0).ls.length (R.getD i rf0).lc)∧(rfRow R)[i*2+1]? = some (.slice (R.getD i rf0).ea (R.getD i rf0).E.length (R.getD i rf0).ec)
 | [],_,h=>by simp at h
 | r :: l,0,_=>⟨rfl,rfl⟩
 | r :: l,i+1,h=>by
  have:=rfRow_at (R:=l) (i:=i) (by simpa using h);rw [show (i+1)*2=i*2+1+1 by omega,rfRow];simpa using this
theorem rfRow_app:∀ a b:List RF,rfRow (a++b)=rfRow a++rfRow b
 | [],_=>rfl
 | r :: a,b=>by simp [rfRow,rfRow_app a b]
theorem rfRow_take:∀ (R:List RF) (k:Nat),(rfRow R).take (k*2)=rfRow (R.take k)
 | [],k=>by simp [rfRow]
 | _ :: _,0=>rfl
 | r :: l,k+1=>by rw [show (k+1)*2=k*2+1+1 by omega,rfRow];simp [rfRow,rfRow_take l k]
theorem rfRow_set:∀ (R:List RF) (k:Nat) (ea:Option Addr) (ec:Nat) (E:List EV),k<R.length→rfRow (R.set k { R.getD k rf0 with ea:=ea,ec:=ec,E:=E })=(rfRow R).set (k*2+1) (.slice ea E.length ec)
 | [],_,_,_,_,h=>by simp at h
 | r :: l,0,_,_,_,_=>rfl
 | r :: l,k+1,ea,ec,E,h=>by
  have:=rfRow_set l k ea ec E (by simpa using h);rw [show (k+1)*2+1=k*2+1+1+1 by omega];simpa [rfRow] using this
theorem rfRow_one:∀ (R:List RF),∀ u∈rfRow R,u.oneCell'=true
 | [],u,h=>by simp [rfRow] at h
 | r :: l,u,h=>by
  simp only [rfRow,List.mem_cons] at h;rcases h with rfl | rfl | h
  · rfl
  · rfl
  · exact rfRow_one l u h
structure FrOK (f:Nat) (D:Nat→Prop) (w:World) (r:RF):Prop where
 nm:RdT D w (.slice r.la r.ls.length r.lc) r.ls
 row:RowD D w 128 14 (.slice r.ea r.E.length r.ec) r.E.length (evRow r.E)
 good:∀ p∈r.E,GoodB f D w p.2
 few:r.E.length≤512
theorem FrOK.imp {r:RF} (h:FrOK f D w r) (hD:∀ g,D g→D' g) (ag:Agree D w w'):FrOK f D' w' r:=⟨h.nm.imp hD ag,h.row.imp hD ag,fun p hp=>(h.good p hp).imp hD ag,h.few⟩
structure RT (f:Nat) (D:Nat→Prop) (w:World) (v:Value) (R:List RF):Prop where
 row:RowD D w 80 2 v R.length (rfRow R)
 fr:∀ r∈R,FrOK f D w r
 pos:0<R.length
 few:R.length≤65
theorem RT.imp {R:List RF} (h:RT f D w v R) (hD:∀ g,D g→D' g) (ag:Agree D w w'):RT f D' w' v R:=⟨h.row.imp hD ag,fun r hr=>(h.fr r hr).imp hD ag,h.pos,h.few⟩
theorem getD_memR {R:List RF} (h:i<R.length):R.getD i rf0∈R:=by
 rw [List.getD_eq_getElem?_getD,List.getElem?_eq_getElem h];exact List.getElem_mem h
theorem getD_memE {E:List EV} (h:i<E.length):E.getD i ev0∈E:=by
 rw [List.getD_eq_getElem?_getD,List.getElem?_eq_getElem h];exact List.getElem_mem h
theorem RT.frame {R:List RF} (h:RT f D w v R) {i:Nat} (hi:i<R.length):FrOK f D w (R.getD i rf0):=h.fr _ (getD_memR hi)
def RTab (f:Nat) (D:Nat→Prop) (w:World) (rb:Nat):Prop:=∃ a c R,BoxA w rb 83 #[.slice a (List.length R) c]∧RT f D w (.slice a R.length c) R
theorem RTab.imp (h:RTab f D w rb) (hD:∀ g,D g→D' g) (ag:Agree D w w') (hb:w'.heap[rb]? = w.heap[rb]?):RTab f D' w' rb:=by
 obtain ⟨a,c,R,h1,h2⟩:=h;exact ⟨a,c,R,h1.of_blk hb,h2.imp hD ag⟩
theorem RTab.one11 (h:RTab f D w rb):rb<w.heap.size:=by
 obtain ⟨a,c,R,h1,_⟩:=h;exact h1.lt
def DX (D:Nat→Prop) (w w':World):Nat→Prop:=fun g=>D g∨(w.heap.size≤g∧g<w'.heap.size)
def RtAns (f:Nat) (D:Nat→Prop) (w:World) (rb:Nat) (e:Ending) (w':World):Prop:=∃ n:Int,e=.returned (.int .i64 n)∧RTab f (DX D w w') w' rb∧Kp rb w w'
theorem RtAns.no (n:Int) (h:RTab f D w rb) (hD:∀ g,D g→g<w.heap.size) (k:Below w.heap.size w w'):RtAns f D w rb (.returned (.int .i64 n)) w':=by
 have hrb:rb<w.heap.size:=by
  obtain ⟨a,c,R,h1,_⟩:=h;exact h1.lt
 exact ⟨n,rfl,h.imp (fun g hg=>Or.inl hg) (fun g hg=>k.block g (hD g hg)) (k.block rb hrb),Kp.of_below k⟩
theorem same_textR (x y:ByteArray):(x.toList==y.toList)=decide (x=y):=by
 by_cases h:x=y
 · rw [decide_eq_true h,h];simp
 · rw [decide_eq_false h,beq_eq_false_iff_ne]
   exact fun e=>h (ByteArray.ext (Array.toList_inj.mp (by rw [← ByteArray.toList_eq,← ByteArray.toList_eq];exact e)))
theorem memT_takeR {s:ByteArray} {ss:List ByteArray} {i:Nat} (hi:i<ss.length) (h:∀ x∈ss.take i,¬ x=s) (hx:¬ ss.getD i noT=s):∀ x∈ss.take (i+1),¬ x=s:=by
 intro x hx2;rw [List.take_add_one,List.getElem?_eq_getElem hi,List.mem_append] at hx2;rcases hx2 with hx2 | hx2
 · exact h x hx2
 · rw [List.getD_eq_getElem?_getD,List.getElem?_eq_getElem hi] at hx
   simp at hx2;rw [hx2];exact hx
theorem refHas11_any {B:Nat} {ss:List ByteArray} (s:ByteArray) (h:RdS B w (.slice a ss.length c) ss) :
    Calls Tryz.prog 73 #[.slice a ss.length c,.string s] w fun e w'=>e=.returned (.bool (memT s ss))∧w=w':=by
 have HR:Hid (RdS B w (.slice a ss.length c) ss):=h;obtain ⟨hc1,hc2⟩:=h.cap;clear h;go_enter Tryz.func73,Tryz.ntmps73;go_wp2
 go_loopw [5] (fun iv wr=>∃ i:Nat,i≤ss.length∧iv=.int .i64 i∧Hid (∀ x∈ss.take i,¬ x=s)∧wr=w) (fun iv _=>ss.length - (intOf iv).toNat)
 case atStart=>exact ⟨0,Nat.zero_le _,rfl,(fun x hx=>by simp at hx),rfl⟩
 case round=>
  obtain ⟨i,hi,rfl,HI,hw⟩:=hrel;obtain rfl:=hw.symm;by_cases hlt:i<ss.length
  · obtain ⟨g,o,rfl,hg,hc⟩:=HR.out.ptr (by omega)
    have q:=hc i hlt;have hst:=same_textR (ss.getD i noT) s;have HN:=@memT_takeR s ss i hlt HI.out;have HM:Hid (ss.getD i noT=s→memT s ss=true):=fun e=>memT_iff.2 (by rw [← e,List.getD_eq_getElem?_getD,List.getElem?_eq_getElem hlt];exact List.getElem_mem hlt);clear hc HI;by_cases hx:ss.getD i noT=s
    · rw [decide_eq_true hx] at hst
      have HT:Hid (memT s ss=true):=HM.out hx;generalize ss.getD i noT=p at *;clear hx HN HM;go_wp2
      go_ret
      exact ⟨by rw [HT.out];rfl,rfl⟩
    · rw [decide_eq_false hx] at hst
      have HI2:Hid (∀ x∈ss.take (i+1),¬ x=s):=HN hx;generalize ss.getD i noT=p at *;clear hx HN HM;go_wp2
      go_roundw
      case rel=>exact ⟨i+1,by omega,by go_num,HI2,(by first | trivial | rfl)⟩
      case measure=>simp [intOf];omega
  · have HF:Hid (memT s ss=false):=memT_no (fun hm=>HI.out s (by rw [List.take_of_length_le (by omega)];exact hm) rfl)
    go_wp2
    go_ret
    exact ⟨by rw [HF.out];rfl,rfl⟩
theorem zA {α:Type} {l:List α} {a:α}:l.toArray.setIfInBounds i a=(l.set i a).toArray:=by simp
theorem z0Z {α:Type} {x:α} {l:List α} {a:α}:(x :: l).set 0 a=a :: l:=rfl
theorem z1Z {α:Type} {x:α} {l:List α} {a:α}:(x :: l).set (i+1) a=x :: l.set i a:=rfl
theorem tk {P:Program} {md:Region.Mode} {ops:Array Oper} {Q:Exit→Act→World→Prop} {S:World→Prop} {oi:Oper} {fuel:Nat} {listed:Array Bool} {a:Act} (k:wpAnyH P md ops Q S fuel (listed.setIfInBounds i true) (a.put oi.dst v) w)
    (hi:ops[i]? = some oi:=by rfl) (hs:Region.noSelect ops=true:=by kernel_rfl) (hf:Region.free md ops listed i=true:=by kernel_rfl) (hr:(Region.ready md ops listed).contains i=true:=by kernel_rfl)
    (hQ:∀ c a w,Q (.panic c) (a.put oi.dst v) w→Q (.panic c) a w:=by exact fun _ _ _ h=>h) (hy:YieldsIf P ops S oi v a:=by exact Or.inl ⟨by rfl,by intro w hSw;(try dsimp only at hSw);go_simp⟩) (hS:S w:=by assumption):wpAnyH P md ops Q S (fuel+1) listed a w:=wpAnyH_take hi hs hf hr hQ hy hS k
end Go.Proofs.YtimfnalpmmkndaaGreatDoor
