/- pairing.through of any two right arrays, where items does what is meant. -/
import Derived.Test.YtmijanocljmaeaaGreatP1
import Derived.Test.YtmijanocljmaeaaGreatM3
set_option maxRecDepth 100000
set_option maxHeartbeats 32000000
set_option linter.unusedVariables false
set_option linter.unusedSimpArgs false
namespace Go.Proofs.YtmijanocljmaeaaGreat
open Go.RowKit
/-- An item that is told, or an error. -/
def ItR (Z L K:Nat) (r:Int×Nat×Tr) (e:Ending) (w':World):Prop:=∃ v:IV,e=.returned (.tuple #[.agg #[.int .u8 v.k,.bool v.b,.slice v.a1 v.n1 v.c1,.slice v.a2 v.n2 v.c2,.int .i32 v.c,.slice v.a3 v.n3 v.c3],.int .i64 r.1])∧Hid (r.1=0→r.2.1≤K→IsIt L (Fr Z w'.heap.size) w' v r.2.2)
/-- A right item that lies in memory. -/
structure ItIn (f:Nat) (D:Nat→Prop) (w:World) (g o L:Nat) (t:Tr):Prop where
 hg:D g
 lies:ItC (ArV f D w) D w g o t
 ok:(measI (measF L) t).isSome=true
/-- What pairing.items tells of two items. -/
def ItemsOK (d:Dy) (K kf:Nat) (caps:Array Value) (p:Nat) (w0:World) (L:Nat):Prop:=∀ (f:Nat) (D:Nat→Prop) (w:World) (gx ox gy oy c:Nat) (x y:Tr),Kp p w0 w→(∀ g,D g→g<w.heap.size)→(∀ g,D g→g≠p)→ItIn f D w gx ox L x→ItIn f D w gy oy L y→c+L*134217728≤1099511627776→BoxA w p 90 #[.int .i32 d.gl,.func (.func kf) #[] caps,.int .i64 (c:Int),.int .i64 (K:Int)] →
 Calls Tryz.prog 100 #[.pointer (some ⟨p,0,none⟩),.pointer (some ⟨gx,ox,none⟩),.pointer (some ⟨gy,oy,none⟩)] w fun e w'=>ItR w.heap.size L K (itemS (thruS d K L) d K c x y) e w'∧Kp p w w'∧BoxA w' p 90 #[.int .i32 d.gl,.func (.func kf) #[] caps,.int .i64 (((itemS (thruS d K L) d K c x y).2.1:Nat):Int),.int .i64 (K:Int)]
/-- An array that a pairing goes through: its items, in the variable's block. -/
structure ThIn (f:Nat) (D:Nat→Prop) (w:World) (p b L:Nat) (a:Option Addr) (c:Nat) (t:Tr):Prop where
 ca:w.cell? ⟨b,1,none⟩=some (.slice a t.kids.length c)
 row:RowB D t.kids.length (.slice a t.kids.length c) (fun g o j=>ItC (ArV f D w) D w g (o+j*6) (t.kids.getD j tr0))
 pos:0<t.kids.length
 ok:∀ x∈t.kids,(measI (measF L) x).isSome=true
 ne:b≠p
/-- An array that is told, or an error. -/
def ThR (Z L K:Nat) (r:Int×Nat×Tr) (e:Ending) (w':World):Prop:=∃ x5 n5 y5 b3 m3 d3,e=.returned (.tuple #[.agg #[.slice x5 n5 y5,.slice b3 m3 d3],.int .i64 r.1])∧Hid (r.1=0→r.2.1≤K→ArV (L+1) (Fr Z w'.heap.size) w' (.slice x5 n5 y5) (.slice b3 m3 d3) r.2.2)∧Hid (r.1≠0→x5=none∧n5=0∧y5=0∧b3=none∧m3=0∧d3=0)
/-- What pairing.through tells of two arrays. -/
def ThruOK (d:Dy) (K kf:Nat) (caps:Array Value) (p:Nat) (w0:World) (L:Nat):Prop:=∀ (f:Nat) (D:Nat→Prop) (w:World) (ba bb c:Nat) (aA:Option Addr) (cA:Nat) (aB:Option Addr) (cB:Nat) (a b:Tr) (x1:Option Addr) (y1:Nat) (sh:List Int),Kp p w0 w→(∀ g,D g→g<w.heap.size)→(∀ g,D g→g≠p)→ThIn f D w p ba L aA cA a→ThIn f D w p bb L aB cB b→RdN D w (.slice x1 sh.length y1) sh→(sizeF sh).2=0→c+(L+1)*134217728≤1099511627776→BoxA w p 90 #[.int .i32 d.gl,.func (.func kf) #[] caps,.int .i64 (c:Int),.int .i64 (K:Int)] →
 Calls Tryz.prog 42 #[.pointer (some ⟨p,0,none⟩),.slice x1 sh.length y1,.func (.func 43) #[] #[.pointer (some ⟨ba,0,none⟩),.pointer (some ⟨bb,0,none⟩)]] w fun e w'=>ThR w.heap.size L K (thruS d K (L+1) c a b sh) e w'∧Kp p w w'∧BoxA w' p 90 #[.int .i32 d.gl,.func (.func kf) #[] caps,.int .i64 (((thruS d K (L+1) c a b sh).2.1:Nat):Int),.int .i64 (K:Int)]
theorem elI_snoc {f:Nat} {l:List Tr} {t:Tr} {D:Nat→Prop} {w:World} {c:Nat→Option Value} {j:Nat} (hj:j<l.length) (h:ElI f l D w c j):ElI f (l++[t]) D w c j:=by
 have e:(l++[t]).getD j tr0=l.getD j tr0:=by rw [List.getD_eq_getElem?_getD,List.getD_eq_getElem?_getD,List.getElem?_append_left hj]
 unfold ElI at h ⊢;rw [e];exact h
theorem getD_snoc (l:List Tr) (t:Tr):(l++[t]).getD l.length tr0=t:=by simp [List.getD_eq_getElem?_getD]
/-- An item's cells as an element of a row. -/
theorem elI_it {f:Nat} {l:List Tr} {t:Tr} {D:Nat→Prop} {w:World} {v:IV} (h:IsIt f D w v t):ElI f (l++[t]) D w (fun k=>[Value.int .u8 v.k,.bool v.b,.slice v.a1 v.n1 v.c1,.slice v.a2 v.n2 v.c2,.int .i32 v.c,.slice v.a3 v.n3 v.c3][k]?) l.length:=by
 unfold ElI;rw [getD_snoc];refine ⟨v.a1,v.c1,v.a2,v.c2,v.a3,v.c3,⟨?_,?_,?_,?_,?_,?_⟩,h.v⟩
 · show some (Value.int .u8 v.k)=_;rw [h.k]
 · show some (Value.bool v.b)=_;rw [h.b]
 · show some (Value.slice v.a1 v.n1 v.c1)=_;rw [h.n1]
 · show some (Value.slice v.a2 v.n2 v.c2)=_;rw [h.n2]
 · show some (Value.int .i32 v.c)=_;rw [h.c]
 · show some (Value.slice v.a3 v.n3 v.c3)=_;rw [h.n3]
theorem ThIn.item {f:Nat} {D:Nat→Prop} {w w':World} {p b L:Nat} {a:Option Addr} {c:Nat} {t:Tr} (h:ThIn f D w p b L a c t) (hb:Agree D w w') (i:Nat):∃ g o,a=some ⟨g,o,none⟩∧ItIn f D w' g (o+i % t.kids.length*6) L (t.kids.getD (i % t.kids.length) tr0):=by
 obtain ⟨g,o,rfl,hg,hc⟩:=h.row.ptr h.pos;have hl:=Nat.mod_lt i h.pos;exact ⟨g,o,rfl,hg,(hc _ hl).imp hg (fun _ h=>h) hb (fun _ _ _ h=>h.agree hb),h.ok _ (getD_memI hl)⟩
theorem ThIn.agree {f:Nat} {D:Nat→Prop} {w w':World} {p b L:Nat} {a:Option Addr} {c:Nat} {t:Tr} (h:ThIn f D w p b L a c t) (hb:Agree D w w') (hc:w'.cell? ⟨b,1,none⟩=w.cell? ⟨b,1,none⟩):ThIn f D w' p b L a c t:=
 ⟨hc.trans h.ca,RowB.imp h.row (fun _ h=>h) (fun g o j hg _ hq=>hq.imp hg (fun _ h=>h) hb (fun _ _ _ h=>h.agree hb)),h.pos,h.ok,h.ne⟩
theorem size_nonneg (sh:List Int):0≤(sizeF sh).1:=by
 unfold sizeF
 split
 · simp
 · split
   · simp
   · split
     · simp
     · split
       · simp
       · rename_i h1 h2 h3
         split
         · rename_i n h
           have:=prodF_lo sh 1 n (by omega) (fun x hx=>by have:=(foldl_lo sh 1).2 x hx;unfold loF at h1;omega) h;dsimp only;omega
         · simp
theorem ownsRow_kp {p Z e size n:Nat} {w w':World} {v:Value} {xs:List Value} (h:w.ownsRow Z e size v n xs) (k:Kp p w w') (hp:p<Z):w'.ownsRow Z e size v n xs:=by
 obtain ⟨h1,h | ⟨g,cap,cur,hv,hg,hh,r⟩⟩:=h
 · exact ⟨h1,Or.inl h⟩
 · exact ⟨h1,Or.inr ⟨g,cap,cur,hv,hg,by rw [k.block g (lt_of_block hh) (by omega)];exact hh,r⟩⟩
theorem RowOf.kept_kp {p e size n Z:Nat} {El:Elem} {W W':World} {v:Value} (h:RowOf e size El Z W v n) (hE:ElemOK size El) (k:Kp p W W') (hp:p<Z):RowOf e size El Z W' v n:=by
 obtain ⟨xs,ho,he⟩:=h;refine ⟨xs,ownsRow_kp ho k hp,fun j hj=>hE _ _ _ _ _ _ _ ?_ ?_ (fun _ _=>rfl) (he j hj)⟩
 · rintro g ⟨g1,g2,g3⟩
   exact ⟨g1,Nat.lt_of_lt_of_le g2 k.size,g3⟩
 · rintro g ⟨g1,g2,g3⟩
   exact k.block g g2 (by omega)
theorem row_round_kp {e size n Z Y o p:Nat} {El:Elem} {W wa w':World} {O:Obj} {v v' u:Value} {xs news:List Value} (hE:ElemOK size El) (ho:W.ownsRow Z e size v n xs) (he:∀ j,j<n→El (FrR Z W v) W (cellsOf xs size j) j) (hp:p<Z) (lY:Y<Z) (hZ:Z≤W.heap.size) (k:Kp p W wa) (hl:news.length=size) (hn:El (fun g=>W.heap.size≤g∧g<wa.heap.size) wa (fun k=>news[k]?) n)
    (hr:w'.ownsRow Z e size v' (n+1) (xs++news)) (hg:(wa.alloc O).grownBy w' v.ownBlock) (hv:v'.ownBlock=v.ownBlock∨v'.ownBlock=some (wa.alloc O).heap.size) :
    RowOf e size El Z (w'.setCell ⟨Y,o,none⟩ u) v' (n+1)∧wa.heap.size≤(w'.setCell ⟨Y,o,none⟩ u).heap.size∧(∀ g,g<Z→g≠p→g≠Y→(w'.setCell ⟨Y,o,none⟩ u).heap[g]? = W.heap[g]?)∧(w'.setCell ⟨Y,o,none⟩ u).os=W.os∧(w'.setCell ⟨Y,o,none⟩ u).tape=W.tape∧(w'.setCell ⟨Y,o,none⟩ u).output=W.output:=by
 have s1:=k.size;have s2:=hg.size;rw [World.size_alloc] at s2;have kA:=below_alloc wa O;have hx:xs.length=n*size:=ho.1;have hR:RowOf e size El Z w' v' (n+1):=by
  refine ⟨_,hr,fun j hj => ?_⟩;by_cases hjn:j<n
  · refine hE _ _ _ _ _ _ _ ?_ ?_ ?_ (he j hjn)
    · rintro g ⟨g1,g2,g3⟩
      refine ⟨g1,by omega,?_⟩;rcases hv with hv | hv
      · rw [hv];exact g3
      · rw [hv,World.size_alloc];intro h;have:=Option.some.inj h;omega
    · rintro g ⟨g1,g2,g3⟩
      rw [hg.block g (by rw [World.size_alloc];omega) (fun h=>g3 h.symm),kA.block g (by omega),k.block g g2 (by omega)]
    · intro q hq
      unfold cellsOf;have:j*size+q<xs.length:=by
       rw [hx];have:(j+1)*size≤n*size:=Nat.mul_le_mul_right _ (by omega);rw [Nat.add_mul] at this;omega
      rw [List.getElem?_append_left this]
  · obtain rfl:j=n:=by omega
    refine hE _ _ _ _ _ _ _ ?_ ?_ ?_ hn
    · rintro g ⟨g1,g2⟩
      refine ⟨by omega,by omega,?_⟩;intro h;rcases hv with hv | hv
      · rw [hv] at h;have:=(row_own ho g h).2;omega
      · rw [hv,World.size_alloc] at h;have:=Option.some.inj h;omega
    · rintro g ⟨g1,g2⟩
      rw [hg.block g (by rw [World.size_alloc];omega) (fun h=>by have:=(row_own ho g h.symm).2;omega),kA.block g g2]
    · intro q hq
      unfold cellsOf;rw [List.getElem?_append_right (by omega),hx]
      congr 1
      omega
 refine ⟨hR.setCell hE (a:=⟨Y,o,none⟩) lY u,by simp [World.setCell];omega,fun g h1 h2 h3 => ?_,hg.os.trans (kA.os.trans k.os),hg.tape.trans (kA.tape.trans k.tape),hg.output.trans (kA.output.trans k.output)⟩;have hne:¬ Y=g:=fun h=>h3 h.symm;have e1:(w'.setCell ⟨Y,o,none⟩ u).heap[g]? = w'.heap[g]?:=by simp [World.setCell,Array.getElem?_modify,hne]
 rw [e1,hg.block g (by rw [World.size_alloc];omega) (fun h=>by have:=(row_own ho g h.symm).1;omega),kA.block g (by omega),k.block g (by omega) h2]
section
variable {d:Dy} {K kf:Nat} {caps:Array Value} {p:Nat} {w0:World} {L:Nat}
theorem through5_none (hK:K≤16384) (f:Nat) (D:Nat→Prop) (w:World) (c:Nat) (a b:Tr) (x1:Option Addr) (y1:Nat) (sh:List Int) (pv:Value) (hD:∀ g,D g→g<w.heap.size) (hDp:∀ g,D g→g≠p) (hsh:RdN D w (.slice x1 sh.length y1) sh) (hs2:(sizeF sh).2=0) (hs0:(sizeF sh).1=0) (hc:c≤1099511627776) (P0:BoxA w p 90 #[.int .i32 d.gl,.func (.func kf) #[] caps,.int .i64 (c:Int),.int .i64 (K:Int)]) :
    Calls Tryz.prog 42 #[.pointer (some ⟨p,0,none⟩),.slice x1 sh.length y1,pv] w fun e w'=>ThR w.heap.size L K (thruS d K (L+1) c a b sh) e w'∧Kp p w w'∧BoxA w' p 90 #[.int .i32 d.gl,.func (.func kf) #[] caps,.int .i64 (((thruS d K (L+1) c a b sh).2.1:Nat):Int),.int .i64 (K:Int)]:=by
 have HR:Hid (thruS d K (L+1) c a b sh=(0,c+1,arrT sh [wholeT 0])):=by unfold Hid;rw [thruS,if_pos (by rw [hs0];rfl)]
 have hsz:sizeF sh=((0:Int),0):=Prod.ext hs0 hs2;have k0:=below_alloc w (.cells #[.slice none 0 0,.slice none 0 0] 25);have lp:=P0.lt;have P1:=P0.below k0 lp;have s0:(w.alloc (.cells #[.slice none 0 0,.slice none 0 0] 25)).heap.size=w.heap.size+1:=by simp
 have hshl:sh.length≤8:=size_rank hs2;have hsh1:=hsh.imp (fun _ h=>h) (Agree.of k0 hD);have HD:Hid (∀ g,D g→g<w.heap.size):=hD;have HDP:Hid (∀ g,D g→g≠p):=hDp;have HSH:Hid (RdN D w (.slice x1 sh.length y1) sh):=hsh;have C1:=arrSize_any hsh1 (fun g hg=>by have:=hD g hg;omega);rw [hsz] at C1;have z2:=P1.cell 2 rfl;have f2:=P1.frozen 2;clear hsh hD hDp hsz hs2 hs0;go_enter Tryz.func42,Tryz.ntmps42
 go_wp2_with fail
 refine C1.mono ?_;rintro e w1 ⟨rfl,hw⟩;obtain rfl:=hw.symm;clear C1;have k0':=below_alloc (w.setCell ⟨p,2,none⟩ (.int .i64 ((c:Int)+1))) (.cells #[.slice none 0 0,.slice none 0 0] 25);have Rs:BoxA ((w.setCell ⟨p,2,none⟩ (.int .i64 ((c:Int)+1))).alloc (.cells #[.slice none 0 0,.slice none 0 0] 25)) w.heap.size 25 #[.slice none 0 0,.slice none 0 0]:=by
  have:=boxA_new (w.setCell ⟨p,2,none⟩ (.int .i64 ((c:Int)+1))) #[.slice none 0 0,.slice none 0 0] 25;rw [set1_size] at this;exact this
 have kS:Kp p w ((w.setCell ⟨p,2,none⟩ (.int .i64 ((c:Int)+1))).alloc (.cells #[.slice none 0 0,.slice none 0 0] 25)):=(Kp.set _ _ _).trans (Kp.of_below k0');have PS:=(P0.put 2 (.int .i64 ((c:Int)+1))).below k0' (by rw [set1_size];exact lp);have sS:((w.setCell ⟨p,2,none⟩ (.int .i64 ((c:Int)+1))).alloc (.cells #[.slice none 0 0,.slice none 0 0] 25)).heap.size=w.heap.size+1:=by rw [World.size_alloc,set1_size]
 have hshS:RdN D ((w.setCell ⟨p,2,none⟩ (.int .i64 ((c:Int)+1))).alloc (.cells #[.slice none 0 0,.slice none 0 0] 25)) (.slice x1 sh.length y1) sh:=HSH.out.imp (fun _ h=>h) (fun q hq=>by rw [kS.block q (HD.out q hq) (HDP.out q hq)]);have C2:=empty_any hshS (by omega) (fun q hq=>by have:=HD.out q hq;omega);clear hsh1 hshS
 go_wp2_with fail
 generalize hSw:(w.setCell ⟨p,2,none⟩ (.int .i64 ((c:Int)+1))).alloc (.cells #[.slice none 0 0,.slice none 0 0] 25)=W1 at *;refine C2.mono ?_;rintro e w2 ⟨x5,y5,b3,d3,rfl,hv,k2⟩;clear C2;have s2:=k2.size;have HV:Hid (ArV 1 (Fr W1.heap.size w2.heap.size) w2 (.slice x5 sh.length y5) (.slice b3 1 d3) (arrT sh [wholeT 0])):=hv;clear hv;have R2:=Rs.below k2 (by omega);have lp1:p<W1.heap.size:=by omega
 have P2:=PS.below k2 lp1;have r0:=R2.cell 0 rfl;have r1:=R2.cell 1 rfl;have g0:=R2.frozen 0;have g1:=R2.frozen 1;have Q:=boxA_s1 (boxA_s0 R2 (.slice x5 sh.length y5)) (.slice b3 1 d3);have j0:=Q.cell 0 rfl;have j1:=Q.cell 1 rfl;have P3:=boxA_oT (boxA_oT P2 (show w.heap.size≠p by omega) (o:=0) (.slice x5 sh.length y5)) (show w.heap.size≠p by omega) (o:=1) (.slice b3 1 d3);go_wp2
 refine bodyPost_ret (v:=.tuple #[.agg #[.slice x5 sh.length y5,.slice b3 1 d3],.int .i64 0]) (by simp [results,Tryz.results42,go_sem,j0,j1]) rfl ?_;have kk:Kp p w w2:=kS.trans (Kp.of_below k2);rw [HR.out];refine ⟨⟨x5,sh.length,y5,b3,1,d3,rfl,fun _ _ => ?_,fun h=>absurd rfl h⟩,⟨kk.os,kk.tape,kk.output,by rw [set1_size,set1_size];exact kk.size,fun q h1 h2=>by rw [set1_other (by show ¬ w.heap.size=q;omega),set1_other (by show ¬ w.heap.size=q;omega)];exact kk.block q h1 h2⟩,by simpa using P3⟩;exact ArV.imp (fun q hq=>⟨by have:=hq.1;omega,by rw [set1_size,set1_size];exact hq.2⟩) (fun q hq=>by rw [set1_other (by show ¬ w.heap.size=q;have:=hq.1;omega),set1_other (by show ¬ w.heap.size=q;have:=hq.1;omega)]) 1 (L+1) _ _ _ (by omega) HV.out
theorem through5_all (hK:K≤16384) (hI:ItemsOK d K kf caps p w0 L):ThruOK d K kf caps p w0 L:=by
 intro f D w ba bb c aA cA aB cB a b x1 y1 sh k00 hD hDp hA hB hsh hs2 hc P0;by_cases hs0:(sizeF sh).1=0
 · exact through5_none hK f D w c a b x1 y1 sh _ hD hDp hsh hs2 hs0 (by omega) P0
 obtain ⟨n,hn⟩:∃ n:Nat,(sizeF sh).1.toNat=n:=⟨_,rfl⟩;have hn4:n≤4096:=by rw [← hn];exact size_hi
 have hsz1:=size_nonneg sh;have hsz:sizeF sh=((n:Int),0):=by rw [← hs2];exact Prod.ext (by show (sizeF sh).1=(n:Int);omega) rfl
 have hn1:0<n:=by
  have:(sizeF sh).1=(n:Int):=by rw [hsz]
  omega
 obtain ⟨it,hit⟩:∃ it,(fun i c=>itemS (thruS d K L) d K c (a.kids.getD (i % a.kids.length) tr0) (b.kids.getD (i % b.kids.length) tr0))=it:=⟨_,rfl⟩;have HR:Hid (thruS d K (L+1) c a b sh=if (stS it K c n).1=0 then (if 16384<(stS it K c n).2.1 - c then (8,(stS it K c n).2.1,tr0) else (0,(stS it K c n).2.1,arrT sh (stS it K c n).2.2)) else ((stS it K c n).1,(stS it K c n).2.1,tr0)):=by
  unfold Hid;rw [thruS,if_neg (by omega),hit,hn]
 have HB:Hid (∀ i,c≤(stS it K c i).2.1∧((stS it K c i).1=0→(stS it K c i).2.1≤c+i*16385)∧(stS it K c i).2.1≤c+i*16385+L*67112961):=by
  intro i;rw [← hit];exact stS_cells (fun i c h=>(itemS_cells (fun c a b sh=>(thruS_cells d K L c a b sh).1) (fun c a b sh=>(thruS_cells d K L c a b sh).2) c _ _).1 h) (fun i c=>(itemS_cells (fun c a b sh=>(thruS_cells d K L c a b sh).1) (fun c a b sh=>(thruS_cells d K L c a b sh).2) c _ _).2) i
 have HITEM:Hid (∀ i (v':World) (cI:Nat),Kp p w v'→cI≤c+4096*16385+4096→BoxA v' p 90 #[.int .i32 d.gl,.func (.func kf) #[] caps,.int .i64 (cI:Int),.int .i64 (K:Int)]→∀ gA oA gB oB,aA=some ⟨gA,oA,none⟩→aB=some ⟨gB,oB,none⟩→Calls Tryz.prog 100 #[.pointer (some ⟨p,0,none⟩),.pointer (some ⟨gA,oA+i % a.kids.length*6,none⟩),.pointer (some ⟨gB,oB+i % b.kids.length*6,none⟩)] v' fun e w'=>ItR v'.heap.size L K (it i cI) e w'∧Kp p v' w'∧BoxA w' p 90 #[.int .i32 d.gl,.func (.func kf) #[] caps,.int .i64 (((it i cI).2.1:Nat):Int),.int .i64 (K:Int)]):=by
  intro i v' cI kv hcI PV gA oA gB oB eA eB;have ag:Agree D w v':=fun q hq=>kv.block q (hD q hq) (hDp q hq);obtain ⟨g1,o1,e1,i1⟩:=hA.item ag i;obtain ⟨g2,o2,e2,i2⟩:=hB.item ag i;rw [eA] at e1;cases e1;rw [eB] at e2;cases e2;rw [← hit];exact hI f D v' gA _ gB _ cI _ _ (k00.trans kv) (fun q hq=>Nat.lt_of_lt_of_le (hD q hq) kv.size) hDp i1 i2 (by omega) PV
 obtain ⟨gA,oA,rfl,_,_⟩:=hA.row.ptr hA.pos;obtain ⟨gB,oB,rfl,_,_⟩:=hB.row.ptr hB.pos;obtain ⟨nA,hnA⟩:∃ n,a.kids.length=n:=⟨_,rfl⟩;obtain ⟨nB,hnB⟩:∃ n,b.kids.length=n:=⟨_,rfl⟩;have ca:=hA.ca;have cb:=hB.ca;have hpA:=hA.pos;have hpB:=hB.pos;have ea:=hA.ne;have eb:=hB.ne;rw [hnA] at ca hpA HITEM;rw [hnB] at cb hpB HITEM;have k0:=below_alloc w (.cells #[.slice none 0 0,.slice none 0 0] 25);have R0:=boxA_new w #[.slice none 0 0,.slice none 0 0] 25;have lp:=P0.lt;have P1:=P0.below k0 lp;have s0:(w.alloc (.cells #[.slice none 0 0,.slice none 0 0] 25)).heap.size=w.heap.size+1:=by simp
 have hshl:sh.length≤8:=size_rank hs2;have hsh1:=hsh.imp (fun _ h=>h) (Agree.of k0 hD);have C1:=arrSize_any hsh1 (fun g hg=>by have:=hD g hg;omega);rw [hsz] at C1;have C2:=copyOf5_any hsh1 (by omega);have z2:=P1.cell 2 rfl;have hn0:((n:Int)==0)=false:=by rw [beq_eq_false_iff_ne];omega
 have hcB:c≤1099511627776 - 134217728:=by omega
 clear hsh hD hDp hsz hsh1 hA hB hI hs0 hs2 hsz1 hn hit hnA hnB hc;go_enter Tryz.func42,Tryz.ntmps42
 go_wp2_with fail
 refine C1.mono ?_;rintro e w1 ⟨rfl,hw⟩;obtain rfl:=hw.symm;clear C1
 go_wp2_with fail
 refine C2.mono ?_;rintro e w2 ⟨x5,y5,rfl,oN,kN⟩;clear C2 z2;have P2:=P1.below kN (by omega);have R2:=R0.below kN (by omega);have kb:=below_alloc w2 (.cells #[.slice x5 sh.length y5,.slice none 0 0] 25);have Y2:=boxA_new w2 #[.slice x5 sh.length y5,.slice none 0 0] 25;have s2:=kN.size;have P3:=P2.below kb (by omega);have R3:=R2.below kb (by omega);have kw:Below w.heap.size w (w2.alloc (.cells #[.slice x5 sh.length y5,.slice none 0 0] 25)):=(k0.trans (kN.mono (by omega))).trans (kb.mono (by omega));have s3:(w2.alloc (.cells #[.slice x5 sh.length y5,.slice none 0 0] 25)).heap.size=w2.heap.size+1:=by simp
 have oN3:=oN.imp (fun _ h=>h) (Agree.of kb (fun q hq=>hq.2));have HN:Hid (RdN (Fr (w.alloc (.cells #[.slice none 0 0,.slice none 0 0] 25)).heap.size w2.heap.size) (w2.alloc (.cells #[.slice x5 sh.length y5,.slice none 0 0] 25)) (.slice x5 sh.length y5) sh):=oN3;clear oN oN3 P1 P2 R0 R2 k0
 go_wp2_with fail
 generalize hA':w2.alloc (.cells #[.slice x5 sh.length y5,.slice none 0 0] 25)=u at *;clear hA';have s3a:w2.heap.size<u.heap.size:=by omega
 have s3b:u.heap.size≤w2.heap.size+1:=by omega
 clear s3;have lba:ba<w.heap.size:=lt_of_cellT ca;have lbb:bb<w.heap.size:=lt_of_cellT cb;obtain ⟨i0,hi,hz0,hz1,hz2⟩:=info_parts info_item3
 go_loopw [41] (fun iv wr=>∃ (i m cI:Nat) (b3:Option Addr) (d3:Nat) (LI:List Tr),iv=.int .i64 i∧i≤n∧Hid ((stS it K c i)=(0,cI,LI))∧Hid (LI.length=m)∧m≤i∧BoxA wr p 90 #[.int .i32 d.gl,.func (.func kf) #[] caps,.int .i64 (cI:Int),.int .i64 (K:Int)]∧BoxA wr w2.heap.size 25 #[.slice x5 sh.length y5,.slice b3 m d3]∧RowOf 63 6 (ElI L LI) u.heap.size wr (.slice b3 m d3) m∧Kp p w wr∧u.heap.size≤wr.heap.size∧Hid (∀ g,g<u.heap.size→g≠p→g≠w2.heap.size→wr.heap[g]? = u.heap[g]?)) (fun iv _=>n - (intOf iv).toNat)
 case atStart=>exact ⟨0,0,c,none,0,[],rfl,Nat.zero_le _,rfl,rfl,Nat.le_refl _,P3,Y2,RowOf.nil,Kp.of_below kw,Nat.le_refl _,fun _ _ _ _=>rfl⟩
 case round=>
  obtain ⟨i,m,cI,b3,d3,LI,rfl,hil,HST,HLM,hmi,Pr,Yr,hrow,kr,hsr,HK⟩:=hrel;have lpr:=Pr.lt;have lyr:=Yr.lt;have hcI:cI≤c+i*16385∧c≤cI:=by
   have:=HB.out i;rw [HST.out] at this;exact ⟨this.2.1 rfl,this.1⟩
  have hcI2:cI≤c+4096*16385:=by have:=hcI.1;omega
  have hcI3:=hcI.2;clear hcI;have Rr:BoxA wr w.heap.size 25 #[.slice none 0 0,.slice none 0 0]:=by
   have:=R3;unfold BoxA at this ⊢;rw [HK.out _ (by omega) (by omega) (by omega)];exact this
  by_cases hlt:i<n
  · have car:=kr.cell ea ca
    have cbr:=kr.cell eb cb;have CP:=pairs_at (i:=i) car cbr hpA hpB;clear car cbr
    go_wp2_with fail
    refine CP.mono ?_;rintro e wd ⟨rfl,q,hwd⟩;clear CP;have kd:Below wr.heap.size wr wd:=by rw [hwd];exact below_drewN' (Below.refl _ _) q
    have sd:wd.heap.size=wr.heap.size:=by rw [hwd];rfl
    clear hwd;have Pd:=Pr.below kd lpr;have Yd:=Yr.below kd lyr;have Rd0:=Rr.below kd (by omega);have d2:=Pd.cell 2 rfl;have f2:=Pd.frozen 2;have Ps:=Pd.put 2 (.int .i64 ((cI:Int)+1));have Ys:=boxA_oT Yd (show p≠w2.heap.size by omega) (o:=2) (.int .i64 ((cI:Int)+1));have Rs:=boxA_oT Rd0 (show p≠w.heap.size by omega) (o:=2) (.int .i64 ((cI:Int)+1));have kS:Kp p wd (wd.setCell ⟨p,2,none⟩ (.int .i64 ((cI:Int)+1))):=Kp.set _ _ _;have kS2:Kp p w (wd.setCell ⟨p,2,none⟩ (.int .i64 ((cI:Int)+1))):=(kr.trans (Kp.of_below kd)).trans kS;have sS:(wd.setCell ⟨p,2,none⟩ (.int .i64 ((cI:Int)+1))).heap.size=wr.heap.size:=by rw [← sd];simp [World.setCell]
    have hrowS:=(hrow.below (elI_ok L LI) kd (Nat.le_refl _)).setCell (elI_ok L LI) (a:=⟨p,2,none⟩) (by show p<_;omega) (.int .i64 ((cI:Int)+1));have CI:=HITEM.out i _ (cI+1) kS2 (by omega) (by simpa using Ps) gA oA gB oB rfl rfl;have HSX:Hid (stS it K c (i+1)=if (it i (cI+1)).1=0 then (0,(it i (cI+1)).2.1,if (it i (cI+1)).2.1≤K then LI++[(it i (cI+1)).2.2] else LI) else ((it i (cI+1)).1,(it i (cI+1)).2.1,[])):=by
     unfold Hid;by_cases hr:(it i (cI+1)).1=0
     · rw [if_pos hr]
       have e:=stS_ok (it:=it) (K:=K) (c0:=c) (i:=i) (by rw [HST.out]) (by rw [HST.out];exact hr);rw [e,HST.out]
     · rw [if_neg hr]
       have e:=stS_no (it:=it) (K:=K) (c0:=c) (i:=i) (by rw [HST.out]) (by rw [HST.out];exact hr);rw [e,HST.out]
    obtain ⟨r,hr⟩:∃ r,it i (cI+1)=r:=⟨_,rfl⟩;rw [hr] at CI HSX;obtain ⟨er,c2,T2⟩:=r;clear hr
    go_wp2_with fail
    generalize hSw:wd.setCell ⟨p,2,none⟩ (.int .i64 ((cI:Int)+1))=W1 at *;clear hSw;refine CI.mono ?_;rintro e w4 ⟨⟨v,rfl,HV⟩,k4,P4⟩;clear CI d2 f2;have s4:=k4.size;have kI:=below_alloc w4 (.cells #[.int .u8 v.k,.bool v.b,.slice v.a1 v.n1 v.c1,.slice v.a2 v.n2 v.c2,.int .i32 v.c,.slice v.a3 v.n3 v.c3] 63);have BI:=boxA_new w4 #[.int .u8 v.k,.bool v.b,.slice v.a1 v.n1 v.c1,.slice v.a2 v.n2 v.c2,.int .i32 v.c,.slice v.a3 v.n3 v.c3] 63;have sI:(w4.alloc (.cells #[.int .u8 v.k,.bool v.b,.slice v.a1 v.n1 v.c1,.slice v.a2 v.n2 v.c2,.int .i32 v.c,.slice v.a3 v.n3 v.c3] 63)).heap.size=w4.heap.size+1:=by simp
    have kWI:Kp p W1 (w4.alloc (.cells #[.int .u8 v.k,.bool v.b,.slice v.a1 v.n1 v.c1,.slice v.a2 v.n2 v.c2,.int .i32 v.c,.slice v.a3 v.n3 v.c3] 63)):=k4.trans (Kp.of_below kI);have lP4:=P4.lt;have PI:=P4.below kI lP4;have YI:BoxA (w4.alloc (.cells #[.int .u8 v.k,.bool v.b,.slice v.a1 v.n1 v.c1,.slice v.a2 v.n2 v.c2,.int .i32 v.c,.slice v.a3 v.n3 v.c3] 63)) w2.heap.size 25 #[.slice x5 sh.length y5,.slice b3 m d3]:=by
     unfold BoxA at Ys ⊢;rw [kWI.block _ (by omega) (by omega)];exact Ys
    have RI:BoxA (w4.alloc (.cells #[.int .u8 v.k,.bool v.b,.slice v.a1 v.n1 v.c1,.slice v.a2 v.n2 v.c2,.int .i32 v.c,.slice v.a3 v.n3 v.c3] 63)) w.heap.size 25 #[.slice none 0 0,.slice none 0 0]:=by
     unfold BoxA at Rs ⊢;rw [kWI.block _ (by omega) (by omega)];exact Rs
    by_cases her:er=0
    · subst her
      have p2:=PI.cell 2 rfl;have p3:=PI.cell 3 rfl;have i1:=BI.cell 0 rfl;have i2:=BI.cell 1 rfl;have i3:=BI.cell 2 rfl;have i4:=BI.cell 3 rfl;have i5:=BI.cell 4 rfl;have i6:=BI.cell 5 rfl;rw [if_pos rfl] at HSX;by_cases hcK:c2≤K
      · have hle:((c2:Int)≤(K:Int))=True:=by simp;omega
        have HS1:Hid (stS it K c (i+1)=(0,c2,LI++[T2])):=by unfold Hid;rw [HSX.out];show (0,c2,if c2≤K then LI++[T2] else LI)=_;rw [if_pos hcK]
        have HT:Hid (IsIt L (Fr W1.heap.size w4.heap.size) w4 v T2):=HV.out rfl hcK
        go_wp2_with fail
        go_quiet (fail)
        generalize hIw:w4.alloc (.cells #[.int .u8 v.k,.bool v.b,.slice v.a1 v.n1 v.c1,.slice v.a2 v.n2 v.c2,.int .i32 v.c,.slice v.a3 v.n3 v.c3] 63)=w5 at *;clear p2 p3;have y1':=YI.cell 1 rfl;obtain ⟨xs,hor,he⟩:=hrowS;have HO:Hid (W1.ownsRow u.heap.size 63 6 (.slice b3 m d3) m xs):=hor;have HE:Hid (∀ j,j<m→ElI L LI (FrR u.heap.size W1 (.slice b3 m d3)) W1 (cellsOf xs 6 j) j):=he;clear hor he hrow;have kq:Below w5.heap.size w5 (w5.drewN nq):=below_drewN' (Below.refl _ _) nq;have lB5:=BI.lt;have lP5:=PI.lt;have lY5:=YI.lt;have B6:=BI.below kq lB5;have P6:=PI.below kq lP5;have Y6:=YI.below kq lY5;have R6:=RI.below kq (by omega);have s56:w5.heap.size≤(w5.drewN nq).heap.size:=kq.size;have k6:Kp p W1 (w5.drewN nq):=kWI.trans (Kp.of_below kq);have HT6:Hid (IsIt L (fun g=>W1.heap.size≤g∧g<(w5.drewN nq).heap.size) (w5.drewN nq) v T2):=HT.out.imp (fun g hg=>⟨hg.1,by have:=hg.2;omega⟩) (fun g hg=>by rw [kq.block g (by have:=hg.2;omega),kI.block g hg.2]);generalize hq6:w5.drewN nq=w6 at *;clear hq6 y1' i1 i2 i3 i4 i5 i6 hIw HT HV;have y1:=Y6.cell 1 rfl;have i1:=B6.cell 0 rfl;have i2:=B6.cell 1 rfl;have i3:=B6.cell 2 rfl;have i4:=B6.cell 3 rfl;have i5:=B6.cell 4 rfl;have i6:=B6.cell 5 rfl;have lY6:=Y6.lt;have lP6:=P6.lt;have s6:=k6.size;have hor6:w6.ownsRow u.heap.size 63 6 (.slice b3 m d3) m xs:=ownsRow_kp HO.out k6 (by omega);have HO6:Hid (w6.ownsRow u.heap.size 63 6 (.slice b3 m d3) m xs):=hor6;clear hor6;have hyO:∀ O,(w6.alloc O).cell? ⟨w2.heap.size,1,none⟩=some (.slice b3 m d3):=fun O=>(Y6.below (below_alloc w6 O) lY6).cell 1 rfl;have hmb:m≤4096:=by omega
        go_wp2_with (at_builtin;refine wpList_append_own_at _ rfl _ _ 23 rfl u.heap.size 63 i0 (.agg #[.int .u8 0,.bool false,.slice none 0 0,.slice none 0 0,.int .i32 0,.slice none 0 0]) 6 96 Tryz.underlying23 hi hz0 hz1 hz2 rfl (by decide) _ m xs rfl (HO6.out.alloc _) ⟨w6.heap.size,0,none⟩ 1 1 [.int .u8 v.k,.bool v.b,.slice v.a1 v.n1 v.c1,.slice v.a2 v.n2 v.c2,.int .i32 v.c,.slice v.a3 v.n3 v.c3] rfl rfl (cells_new w6 #[.int .u8 v.k,.bool v.b,.slice v.a1 v.n1 v.c1,.slice v.a2 v.n2 v.c2,.int .i32 v.c,.slice v.a3 v.n3 v.c3] _) (by intro x hx;simp at hx;rcases hx with rfl | rfl | rfl | rfl | rfl | rfl <;> rfl) (by unfold maxLen;omega) (by omega) (by simp;omega) ?_)
        intro v' w7 hr hgr _ hvo;obtain ⟨b4,d4,rfl⟩:=row_form3 hr;have nY:(Value.slice b3 m d3).ownBlock≠some w2.heap.size:=fun h=>by have:=(row_own HO.out _ h).1;omega
        have nP:(Value.slice b3 m d3).ownBlock≠some p:=fun h=>by have:=(row_own HO.out _ h).1;omega
        have Y7:=boxA_grown (Y6.below (below_alloc w6 (.cells #[.int .u8 v.k,.bool v.b,.slice v.a1 v.n1 v.c1,.slice v.a2 v.n2 v.c2,.int .i32 v.c,.slice v.a3 v.n3 v.c3] 63)) lY6) hgr nY;have P7:=boxA_grown (P6.below (below_alloc w6 (.cells #[.int .u8 v.k,.bool v.b,.slice v.a1 v.n1 v.c1,.slice v.a2 v.n2 v.c2,.int .i32 v.c,.slice v.a3 v.n3 v.c3] 63)) lP6) hgr nP;have y7:=Y7.cell 1 rfl;have f7:=Y7.frozen 1;have hE6:∀ j,j<m→ElI L (LI++[T2]) (FrR u.heap.size W1 (.slice b3 m d3)) W1 (cellsOf xs 6 j) j:=fun j hj=>elI_snoc (by rw [HLM.out];exact hj) (HE.out j hj);have hN6:ElI L (LI++[T2]) (fun g=>W1.heap.size≤g∧g<w6.heap.size) w6 (fun k=>[Value.int .u8 v.k,.bool v.b,.slice v.a1 v.n1 v.c1,.slice v.a2 v.n2 v.c2,.int .i32 v.c,.slice v.a3 v.n3 v.c3][k]?) m:=by have:=elI_it (l:=LI) HT6.out;rw [HLM.out] at this;exact this
        obtain ⟨t1,t2,t3,t4⟩:=row_round_kp (Y:=w2.heap.size) (o:=1) (u:=.slice b4 (m+1) d4) (elI_ok L (LI++[T2])) HO.out hE6 (by omega) (by omega) (by omega) k6 rfl hN6 hr hgr (by rw [World.size_alloc];exact hvo);have T1:Hid (RowOf 63 6 (ElI L (LI++[T2])) u.heap.size (w7.setCell ⟨w2.heap.size,1,none⟩ (.slice b4 (m+1) d4)) (.slice b4 (m+1) d4) (m+1)):=t1;have HK7:Hid (∀ g,g<u.heap.size→g≠p→g≠w2.heap.size→(w7.setCell ⟨w2.heap.size,1,none⟩ (.slice b4 (m+1) d4)).heap[g]? = u.heap[g]?):=fun g h1 h2 h3=>by
         rw [t3 g h1 h2 h3,kS.block g (by omega) h2,kd.block g (by omega)];exact HK.out g h1 h2 h3
        have Kp7:Kp p w (w7.setCell ⟨w2.heap.size,1,none⟩ (.slice b4 (m+1) d4)):=⟨t4.1.trans kS2.os,t4.2.1.trans kS2.tape,t4.2.2.trans kS2.output,Nat.le_trans (Nat.le_trans kS2.size s6) (by omega),fun g h1 h2=>by rw [t3 g (by omega) h2 (by omega)];exact kS2.block g h1 h2⟩;have P8:BoxA (w7.setCell ⟨w2.heap.size,1,none⟩ (.slice b4 (m+1) d4)) p 90 #[.int .i32 d.gl,.func (.func kf) #[] caps,.int .i64 (c2:Int),.int .i64 (K:Int)]:=boxA_oT P7 (show w2.heap.size≠p by omega) (o:=1) (.slice b4 (m+1) d4);have Y8:=boxA_s1 Y7 (.slice b4 (m+1) d4);clear t1 t3 t4 hr hgr hvo hE6 hN6;go_wp2
        go_roundw
        case rel=>exact ⟨i+1,m+1,c2,b4,d4,LI++[T2],by go_num,by omega,HS1,by unfold Hid;rw [List.length_append,HLM.out];rfl,by omega,P8,Y8,T1.out,Kp7,by omega,HK7⟩
        case measure=>simp [intOf];omega
      · have hle:((c2:Int)≤(K:Int))=False:=by simp;omega
        have HS1:Hid (stS it K c (i+1)=(0,c2,LI)):=by unfold Hid;rw [HSX.out];show (0,c2,if c2≤K then LI++[T2] else LI)=_;rw [if_neg hcK]
        go_wp2_with fail
        go_quiet (fail)
        generalize hIw:w4.alloc (.cells #[.int .u8 v.k,.bool v.b,.slice v.a1 v.n1 v.c1,.slice v.a2 v.n2 v.c2,.int .i32 v.c,.slice v.a3 v.n3 v.c3] 63)=w5 at *;have kq:Below w5.heap.size w5 (w5.drewN nq):=below_drewN' (Below.refl _ _) nq;have lP5:=PI.lt;have lY5:=YI.lt;have P6:=PI.below kq lP5;have Y6:=YI.below kq lY5;have k6:Kp p W1 (w5.drewN nq):=kWI.trans (Kp.of_below kq);have hrow6:RowOf 63 6 (ElI L LI) u.heap.size (w5.drewN nq) (.slice b3 m d3) m:=hrowS.kept_kp (elI_ok L LI) k6 (by omega);generalize hq6:w5.drewN nq=w6 at *;clear hq6 i1 i2 i3 i4 i5 i6 hIw p2 p3;have s6:=k6.size;have HRW6:Hid (RowOf 63 6 (ElI L LI) u.heap.size w6 (.slice b3 m d3) m):=hrow6;have HK7:Hid (∀ g,g<u.heap.size→g≠p→g≠w2.heap.size→w6.heap[g]? = u.heap[g]?):=fun g h1 h2 h3=>by
         rw [k6.block g (by omega) h2,kS.block g (by omega) h2,kd.block g (by omega)];exact HK.out g h1 h2 h3
        have Kp7:Kp p w w6:=kS2.trans k6;clear hrow6 hrowS hrow;go_wp2
        go_roundw
        case rel=>exact ⟨i+1,m,c2,b3,d3,LI,by go_num,by omega,HS1,HLM,by omega,P6,Y6,HRW6.out,Kp7,by omega,HK7⟩
        case measure=>simp [intOf];omega
    · have hen:(er != 0)=true:=by rw [bne_iff_ne];exact her
      have HR2:Hid (thruS d K (L+1) c a b sh=(er,c2,tr0)):=by
       unfold Hid;have e1:stS it K c (i+1)=(er,c2,[]):=by rw [HSX.out,if_neg her]
       have e2:stS it K c n=(er,c2,[]):=by rw [stS_to (i:=i+1) (by rw [e1];exact her) (by omega),e1]
       rw [HR.out,e2,if_neg her]
      have HER:Hid (er≠0):=her;clear her;have r0:=RI.cell 0 rfl;have r1:=RI.cell 1 rfl;have f0:=RI.frozen 0;have f1:=RI.frozen 1;have Q:=boxA_s1 (boxA_s0 RI (.slice none 0 0)) (.slice none 0 0);have j0:=Q.cell 0 rfl;have j1:=Q.cell 1 rfl;have P8:=boxA_oT (boxA_oT PI (show w.heap.size≠p by omega) (o:=0) (.slice none 0 0)) (show w.heap.size≠p by omega) (o:=1) (.slice none 0 0);have kF:Kp p w (w4.alloc (.cells #[.int .u8 v.k,.bool v.b,.slice v.a1 v.n1 v.c1,.slice v.a2 v.n2 v.c2,.int .i32 v.c,.slice v.a3 v.n3 v.c3] 63)):=kS2.trans kWI;go_wp2
      try simp only [Exit.inBlock,Exit.then]
      refine bodyPost_ret (v:=.tuple #[.agg #[.slice none 0 0,.slice none 0 0],.int .i64 er]) ?_ rfl ?_
      · simp [results,Tryz.results42,go_sem,j0,j1]
      · rw [HR2.out]
        exact ⟨⟨none,0,0,none,0,0,rfl,fun h=>absurd h HER.out,fun _=>⟨rfl,rfl,rfl,rfl,rfl,rfl⟩⟩,⟨kF.os,kF.tape,kF.output,by rw [set1_size,set1_size];exact kF.size,fun g h1 h2=>by rw [set1_other (by show ¬ w.heap.size=g;omega),set1_other (by show ¬ w.heap.size=g;omega)];exact kF.block g h1 h2⟩,P8⟩
  · obtain rfl:i=n:=by omega
    have r0:=Rr.cell 0 rfl;have r1:=Rr.cell 1 rfl;have f0:=Rr.frozen 0;have f1:=Rr.frozen 1;have y0:=Yr.cell 0 rfl;have y1:=Yr.cell 1 rfl;have q2:=Pr.cell 2 rfl;by_cases hgt:16384<cI - c
    · have hgt':(16384:Int)<(cI:Int) - (c:Int):=by omega
      have HR2:Hid (thruS d K (L+1) c a b sh=(8,cI,tr0)):=by
       unfold Hid;rw [HR.out,HST.out];show (if (0:Int)=0 then _ else _)=_;rw [if_pos rfl];exact if_pos hgt
      have Q:=boxA_s1 (boxA_s0 Rr (.slice none 0 0)) (.slice none 0 0);have j0:=Q.cell 0 rfl;have j1:=Q.cell 1 rfl;have P8:=boxA_oT (boxA_oT Pr (show w.heap.size≠p by omega) (o:=0) (.slice none 0 0)) (show w.heap.size≠p by omega) (o:=1) (.slice none 0 0);go_wp2
      refine bodyPost_ret (v:=.tuple #[.agg #[.slice none 0 0,.slice none 0 0],.int .i64 8]) (by simp [results,Tryz.results42,go_sem,j0,j1]) rfl ?_;rw [HR2.out];exact ⟨⟨none,0,0,none,0,0,rfl,(fun h=>by cases h),fun _=>⟨rfl,rfl,rfl,rfl,rfl,rfl⟩⟩,⟨kr.os,kr.tape,kr.output,by rw [set1_size,set1_size];exact kr.size,fun g h1 h2=>by rw [set1_other (by show ¬ w.heap.size=g;omega),set1_other (by show ¬ w.heap.size=g;omega)];exact kr.block g h1 h2⟩,P8⟩
    · have hgt':¬ (16384:Int)<(cI:Int) - (c:Int):=by omega
      have HR2:Hid (thruS d K (L+1) c a b sh=(0,cI,arrT sh LI)):=by
       unfold Hid;rw [HR.out,HST.out];show (if (0:Int)=0 then _ else _)=_;rw [if_pos rfl];exact if_neg hgt
      have Q:=boxA_s1 (boxA_s0 Rr (.slice x5 sh.length y5)) (.slice b3 m d3);have j0:=Q.cell 0 rfl;have j1:=Q.cell 1 rfl;have P8:=boxA_oT (boxA_oT Pr (show w.heap.size≠p by omega) (o:=0) (.slice x5 sh.length y5)) (show w.heap.size≠p by omega) (o:=1) (.slice b3 m d3);go_wp2
      refine bodyPost_ret (v:=.tuple #[.agg #[.slice x5 sh.length y5,.slice b3 m d3],.int .i64 0]) (by simp [results,Tryz.results42,go_sem,j0,j1]) rfl ?_;rw [HR2.out];refine ⟨⟨x5,sh.length,y5,b3,m,d3,rfl,fun _ _=>⟨HN.out.imp ?_ ?_,?_⟩,fun h=>absurd rfl h⟩,⟨kr.os,kr.tape,kr.output,by rw [set1_size,set1_size];exact kr.size,fun g h1 h2=>by rw [set1_other (by show ¬ w.heap.size=g;omega),set1_other (by show ¬ w.heap.size=g;omega)];exact kr.block g h1 h2⟩,P8⟩
      · rintro g ⟨q1,q2⟩;exact ⟨by omega,by rw [set1_size,set1_size];omega⟩
      · rintro g ⟨q1,q2⟩;rw [set1_other (by show ¬ w.heap.size=g;omega),set1_other (by show ¬ w.heap.size=g;omega)];exact HK.out g (by omega) (by omega) (by omega)
      · have hb:=rowB_I (D:=Fr w.heap.size ((wr.setCell ⟨w.heap.size,0,none⟩ (.slice x5 sh.length y5)).setCell ⟨w.heap.size,1,none⟩ (.slice b3 m d3)).heap.size) ((hrow.setCell (elI_ok _ _) (a:=⟨w.heap.size,0,none⟩) (by show w.heap.size<_;omega) (.slice x5 sh.length y5)).setCell (elI_ok _ _) (a:=⟨w.heap.size,1,none⟩) (by show w.heap.size<_;omega) (.slice b3 m d3)) (fun g q1 q2=>⟨by omega,q2⟩)
        have e:(arrT sh LI).kids.length=m:=HLM.out;rw [e];exact hb
end
end Go.Proofs.YtmijanocljmaeaaGreat
