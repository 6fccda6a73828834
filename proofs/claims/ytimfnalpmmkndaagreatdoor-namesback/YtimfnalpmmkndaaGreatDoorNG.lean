/- A table whose row of frames is another one. -/
import Derived.Test.YtimfnalpmmkndaaGreatDoorNF
import Derived.Test.YtimfnalpmmkndaaGreatDoorNB
import Derived.Test.YtimfnalpmmkndaaGreatDoorDA
import Derived.Test.YtimfnalpmmkndaaGreatDoorSA
set_option maxRecDepth 100000
set_option maxHeartbeats 16000000
set_option linter.unusedVariables false
set_option linter.unusedSimpArgs false
namespace Go.Proofs.YtimfnalpmmkndaaGreatDoor
variable {g R ty c:Nat} {w:World} {ss:List ByteArray} {cur:Array Value}
section
open Go.RowKit
section
variable {f:Nat} {M M':Nat→Prop} {w w3:World} {tb:Nat} {m0:Option Nat} {ua ua':Option Addr} {ucap ucap':Nat} {rs rs':List FRep} {T T':List FrB}
theorem setT_other (h:¬ tb=g) (v:Value):(w.setCell ⟨tb,2,none⟩ v).heap[g]? = w.heap[g]?:=by
 simp [World.setCell,Array.getElem?_modify,h]
theorem TabR.reRow (h:TabR f M w tb m0 ua ucap rs T) (hM:∀ g,M g→M' g) (hlo:∀ g,M' g→tb≤g∧g<w3.heap.size) (hN:NewM M M' w) (hs:w.heap.size≤w3.heap.size)
    (hkeep:∀ g,g<w.heap.size→(Value.slice ua rs.length ucap).ownBlock≠some g→w3.heap[g]? = w.heap[g]?)
    (hrow:w3.ownsRow 0 74 2 (.slice ua' rs'.length ucap') rs'.length (frRow rs')) (hu:∀ p,ua'=some p→M' p.block) (hlen:T'.length=rs'.length+1)
    (hold:∀ k,k<rs'.length→(k<rs.length∧rs'.getD k fr0=rs.getD k fr0∧T'.getD (k+1) fb0=T.getD (k+1) fb0)∨((rs'.getD k fr0).mb=none∧(T'.getD (k+1) fb0).en=[]∧(rs'.getD k fr0).ln=(T'.getD (k+1) fb0).ls.length∧RdT (DM M' w3) w3 (.slice (rs'.getD k fr0).la (T'.getD (k+1) fb0).ls.length (rs'.getD k fr0).lc) (T'.getD (k+1) fb0).ls))
    (h0:T'.getD 0 fb0=T.getD 0 fb0):TabR f M' (w3.setCell ⟨tb,2,none⟩ (.slice ua' rs'.length ucap')) tb m0 ua' ucap' rs' T':=by
 have hub:∀ g,(Value.slice ua rs.length ucap).ownBlock=some g→M g∧g≠tb:=fun g hg=>by
  obtain ⟨h1,cur,h2⟩:=h.ub hg;refine ⟨h1,fun e => ?_⟩;subst e;have:=h.box;unfold BoxA at this;rw [h2] at this
  cases this
 have htb:=h.box.lt;have B3:BoxA w3 tb 77 #[.slice none 0 0,.map m0,.slice ua rs.length ucap]:=h.box.of_blk (hkeep tb htb (fun e=>(hub tb e).2 rfl));have hsz:(w3.setCell ⟨tb,2,none⟩ (.slice ua' rs'.length ucap')).heap.size=w3.heap.size:=by simp [World.setCell]
 have hmd:∀ g,M' g→g<w.heap.size→M g:=fun g hg hl=>by
  rcases hN g hg with h1 | h1
  · exact h1
  · omega
 have hD:∀ g,DM M w g→DM M' (w3.setCell ⟨tb,2,none⟩ (.slice ua' rs'.length ucap')) g:=fun g hg=>⟨by rw [hsz];have:=hg.1;omega,fun e=>hg.2 (hmd g e hg.1)⟩;have ag:Agree (DM M w) w (w3.setCell ⟨tb,2,none⟩ (.slice ua' rs'.length ucap')):=fun g hg=>by
  rw [setT_other (fun e=>hg.2 (by rw [← e];exact h.mt))];exact hkeep g hg.1 (fun e=>hg.2 (hub g e).1)
 have hD3:∀ g,DM M' w3 g→DM M' (w3.setCell ⟨tb,2,none⟩ (.slice ua' rs'.length ucap')) g:=fun g hg=>⟨by rw [hsz];exact hg.1,hg.2⟩;have ag3:Agree (DM M' w3) w3 (w3.setCell ⟨tb,2,none⟩ (.slice ua' rs'.length ucap')):=fun g hg=>setT_other (fun e=>hg.2 (by rw [← e];exact hM _ h.mt)) _;have hmb:∀ i,i<T'.length→mbA m0 rs' i=none∨(i<T.length∧mbA m0 rs' i=mbA m0 rs i∧T'.getD i fb0=T.getD i fb0):=fun i hi=>by
  cases i with
  | zero=>exact Or.inr ⟨by have:=h.len;omega,rfl,h0⟩
  | succ k=>
   rcases hold k (by omega) with ⟨h1,h2,h3⟩ | ⟨h1,_⟩
   · exact Or.inr ⟨by have:=h.len;omega,by show (rs'.getD k fr0).mb=(rs.getD k fr0).mb;rw [h2],h3⟩
   · exact Or.inl h1
 refine ⟨boxA_t2 B3 _,own_blockN hrow (fun g hg=>setT_other (fun e => ?_) _),hlen,by rw [h0];exact h.ls0,hM _ h.mt,hu,fun i hi B hB => ?_,fun g hg=>by rw [hsz];exact hlo g hg,fun i j hi hj B h1 h2 => ?_,fun k hk => ?_,fun i hi => ?_⟩
 · obtain ⟨_,⟨hv,_⟩ | ⟨g',cap,cur,hv,_,r2,_⟩⟩:=hrow
   · rw [hv] at hg;cases hg
   · rw [hv] at hg
     cases hg
     subst e;unfold BoxA at B3;rw [r2] at B3
     cases B3
 · rcases hmb i hi with h1 | ⟨h1,h2,_⟩
   · rw [h1] at hB;cases hB
   · exact hM _ (h.mm i h1 B (by rw [← h2];exact hB))
 · rcases hmb i hi with h3 | ⟨h3,h4,_⟩
   · rw [h3] at h1;cases h1
   rcases hmb j hj with h5 | ⟨h5,h6,_⟩
   · rw [h5] at h2;cases h2
   exact h.one i j h3 h5 B (by rw [← h4];exact h1) (by rw [← h6];exact h2)
 · rcases hold k hk with ⟨h1,h2,h3⟩ | ⟨_,_,h3,h4⟩
   · rw [h2,h3]
     exact ⟨(h.loc k h1).1,(h.loc k h1).2.imp hD ag⟩
   · exact ⟨h3,h4.imp hD3 ag3⟩
 · have hnew:mbA m0 rs' i=none→(T'.getD i fb0).en=[]→∃ l,FrM (w3.setCell ⟨tb,2,none⟩ (.slice ua' rs'.length ucap')) (mbA m0 rs' i) l∧EntsIs f (DM M' (w3.setCell ⟨tb,2,none⟩ (.slice ua' rs'.length ucap'))) (w3.setCell ⟨tb,2,none⟩ (.slice ua' rs'.length ucap')) l (T'.getD i fb0).en:=fun h1 h2=>⟨[],Or.inl ⟨h1,rfl⟩,by rw [h2];exact trivial⟩
   have hsame:i<T.length→mbA m0 rs' i=mbA m0 rs i→T'.getD i fb0=T.getD i fb0→∃ l,FrM (w3.setCell ⟨tb,2,none⟩ (.slice ua' rs'.length ucap')) (mbA m0 rs' i) l∧EntsIs f (DM M' (w3.setCell ⟨tb,2,none⟩ (.slice ua' rs'.length ucap'))) (w3.setCell ⟨tb,2,none⟩ (.slice ua' rs'.length ucap')) l (T'.getD i fb0).en:=fun h1 h2 h3=>by
    obtain ⟨l,h4,h5⟩:=h.ents i h1;rw [h2,h3];refine ⟨l,h4.kept (fun B hB => ?_),h5.imp hD ag⟩;have hMS:MapS w B l:=by
     rcases h4 with ⟨h4,_⟩ | ⟨B2,h6,h7⟩
     · rw [h4] at hB;cases hB
     · rw [h6] at hB;cases hB;exact h7
    rw [setT_other (TabR.not_map h.box hMS)];refine hkeep B hMS.lt (fun e => ?_);obtain ⟨_,cur,hc⟩:=h.ub e;exact TabR.not_map hc hMS rfl
   cases i with
   | zero=>exact hsame (by have:=h.len;omega) rfl h0
   | succ k=>
    rcases hold k (by omega) with ⟨h1,h2,h3⟩ | ⟨h1,h2,_⟩
    · exact hsame (by have:=h.len;omega) (by show (rs'.getD k fr0).mb=(rs.getD k fr0).mb;rw [h2]) h3
    · exact hnew h1 h2
end
end
section
open Go.RowKit
theorem owS_lowN {base:Nat} {v:Value} (h:OwS base w v ss) {q i:Nat} (hq:q<base) (x:Value):OwS base (w.setCell ⟨q,i,none⟩ x) v ss:=by
 obtain ⟨h1,h | ⟨g,cap,cur,hv,hg,hh,r⟩⟩:=h
 · exact ⟨h1,Or.inl h⟩
 · refine ⟨h1,Or.inr ⟨g,cap,cur,hv,hg,?_,r⟩⟩
   rw [← hh];simp [World.setCell,Array.getElem?_modify,(show ¬ q=g by omega)]
theorem boxA_q0 {u0 u1:Value} (h:BoxA w R ty #[u0,u1]) (u:Value):BoxA (w.setCell ⟨R,0,none⟩ u) R ty #[u,u1]:=by
 unfold BoxA at h ⊢;simp [World.setCell,Array.getElem?_modify,h]
theorem boxA_q1 {u0 u1:Value} (h:BoxA w R ty #[u0,u1]) (u:Value):BoxA (w.setCell ⟨R,1,none⟩ u) R ty #[u0,u]:=by
 unfold BoxA at h ⊢;simp [World.setCell,Array.getElem?_modify,h]
theorem boxA_qo {q i:Nat} {xs:Array Value} (h:BoxA w R ty xs) (hq:q≠R) (u:Value):BoxA (w.setCell ⟨q,i,none⟩ u) R ty xs:=by
 unfold BoxA at h ⊢;simp [World.setCell,Array.getElem?_modify,h,hq]
def dedF:List ByteArray→List ByteArray→List ByteArray
 | acc,[]=>acc
 | acc,x :: l=>if memT x acc=true then dedF acc l else dedF (acc++[x]) l
theorem localising_any {B:Nat} {a:Option Addr} (h:RdS B w (.slice a ss.length c) ss) (hB:B≤w.heap.size) (hl:ss.length≤1000000) :
    Calls Tryz.prog 42 #[.slice a ss.length c] w fun e w'=>∃ a' c' fs,Hid (fs=dedF [] ss)∧e=.returned (.agg #[.slice a' fs.length c',.map none])∧OwS w.heap.size w' (.slice a' fs.length c') fs∧Below w.heap.size w w':=by
 have HR:Hid (RdS B w (.slice a ss.length c) ss):=h;obtain ⟨hc1,hc2⟩:=h.cap;obtain ⟨N,hN⟩:∃ N,N=dedF [] ss:=⟨_,rfl⟩;have HNN:Hid (N=dedF [] ss):=hN;clear h hN;have e1:=below_alloc w (.cells #[.slice none 0 0,.map none] 74);have B1:=boxA_new w #[.slice none 0 0,.map none] 74;have e2:=below_alloc (w.alloc (.cells #[.slice none 0 0,.map none] 74)) (.cells #[.slice none 0 0,.map none] 74);have B2:=boxA_new (w.alloc (.cells #[.slice none 0 0,.map none] 74)) #[.slice none 0 0,.map none] 74;have B1':=B1.below e2 (by simp);have kw:=e1.trans (e2.mono e1.size);have hs0:((w.alloc (.cells #[.slice none 0 0,.map none] 74)).alloc (.cells #[.slice none 0 0,.map none] 74)).heap.size=w.heap.size+2:=by simp
 rw [World.size_alloc] at B2;go_enter Tryz.func42,Tryz.ntmps42;go_wp2
 generalize hv:(w.alloc (.cells #[.slice none 0 0,.map none] 74)).alloc (.cells #[.slice none 0 0,.map none] 74)=v at *;clear hv e1 e2 B1
 go_loopw [8] (fun iv wr=>∃ i:Nat,i≤ss.length∧iv=.int .i64 i∧∃ (acc:List ByteArray) (a':Option Addr) (c':Nat),Hid (N=dedF acc (ss.drop i))∧acc.length≤i∧BoxA wr w.heap.size 74 #[.slice none 0 0,.map none]∧BoxA wr (w.heap.size+1) 74 #[.slice a' acc.length c',.map none]∧OwS (w.heap.size+2) wr (.slice a' acc.length c') acc∧Below w.heap.size w wr∧w.heap.size+2≤wr.heap.size) (fun iv _=>ss.length - (intOf iv).toNat)
 case atStart=>exact ⟨0,Nat.zero_le _,rfl,[],none,0,HNN,Nat.le_refl _,B1',B2,World.ownsRow_nil _ _ _ _,kw,by omega⟩
 case round=>
  obtain ⟨i,hi,rfl,acc,a',c',HN,hacc,X1,X2,hO,hb,hsz⟩:=hrel;clear B1' B2 kw hs0;by_cases hlt:i<ss.length
  · obtain ⟨g,o,rfl,hg,hc⟩:=HR.out.ptr (by omega)
    have q:=(hb.cell (p:=⟨g,o+i,none⟩) (by show g<_;omega)).trans (hc i hlt);have i1:(i:Int)<(ss.length:Int):=by omega
    have HS:Hid (N=dedF acc (ss.getD i noT :: ss.drop (i+1))):=by
     unfold Hid;rw [HN.out,List.drop_eq_getElem_cons hlt,List.getD_eq_getElem?_getD,List.getElem?_eq_getElem hlt];rfl
    generalize ss.getD i noT=x at *;have y0:=X2.cell 0 rfl;have z0:=X2.frozen 0;have HO:Hid (OwS (w.heap.size+2) wr (.slice a' acc.length c') acc):=hO;clear hc HN hO
    go_wp2_with fail
    refine (localises_any x y0 (RdS.of_row HO.out)).mono ?_;rintro e w1 ⟨rfl,hw⟩;obtain rfl:=hw.symm
    cases hx:memT x acc with
    | true=>
     have HN2:Hid (N=dedF acc (ss.drop (i+1))):=by unfold Hid;rw [HS.out,dedF,if_pos hx]
     clear hx HS;go_wp2
     go_roundw
     case rel=>exact ⟨i+1,by omega,by go_num,acc,a',c',HN2,by omega,X1,X2,HO.out,hb,hsz⟩
     case measure=>simp [intOf];omega
    | false=>
     have HN2:Hid (N=dedF (acc++[x]) (ss.drop (i+1))):=by unfold Hid;rw [HS.out,dedF,if_neg (by rw [hx];simp)]
     have ka:=below_alloc wr (.cells #[.string x] 9);have hN1:RdS (wr.heap.size+1) (wr.alloc (.cells #[.string x] 9)) (.slice (some ⟨wr.heap.size,0,none⟩) 1 1) [x]:=rdS_new1 wr x;have hO1:=owS_belowS HO.out ka (Nat.le_refl _);clear hx HS
     go_wp2_with (at_builtin;refine append_strs rfl _ _ rfl rfl rfl (ys:=[x]) hO1 hN1 (by show (_+1)*16≤_;omega) (by simp;omega) ?_)
     intro v' w' hO2 hgr;have hge:=fun k hk=>(hO1.lt k hk).1;have kb:Below w.heap.size w w':=(hb.trans (ka.mono hb.size)).grown hgr (by have:=ka.size;omega) (fun k hk=>by have:=hge k hk;omega);have X1':=boxA_gr (X1.below ka X1.lt) hgr (fun e=>by have:=hge _ e;omega);have X2':=boxA_gr (X2.below ka X2.lt) hgr (fun e=>by have:=hge _ e;omega);have hsz2:w.heap.size+2≤w'.heap.size:=by have:=hgr.size;have:=ka.size;omega
     obtain ⟨a2,c2,rfl⟩:=row_form2S hO2;have hlx:(acc++[x]).length=acc.length+1:=by simp
     obtain ⟨acc2,hac⟩:∃ acc2,acc++[x]=acc2:=⟨_,rfl⟩;rw [hac] at hO2 HN2 hlx ⊢;have hl2:acc2.length≤i+1:=by omega
     have y1:=X2'.cell 0 rfl;have z1:=X2'.frozen 0;have HF:Hid (BoxA (w'.setCell ⟨w.heap.size+1,0,none⟩ (.slice a2 acc2.length c2)) w.heap.size 74 #[.slice none 0 0,.map none]∧BoxA (w'.setCell ⟨w.heap.size+1,0,none⟩ (.slice a2 acc2.length c2)) (w.heap.size+1) 74 #[.slice a2 acc2.length c2,.map none]∧OwS (w.heap.size+2) (w'.setCell ⟨w.heap.size+1,0,none⟩ (.slice a2 acc2.length c2)) (.slice a2 acc2.length c2) acc2∧Below w.heap.size w (w'.setCell ⟨w.heap.size+1,0,none⟩ (.slice a2 acc2.length c2))∧w.heap.size+2≤(w'.setCell ⟨w.heap.size+1,0,none⟩ (.slice a2 acc2.length c2)).heap.size):=
      ⟨boxA_qo X1' (by omega) _,boxA_q0 X2' _,owS_lowN hO2 (by omega) _,kb.setCell (p:=⟨w.heap.size+1,0,none⟩) (show w.heap.size≤w.heap.size+1 by omega) _,by simp [World.setCell];exact hsz2⟩
     clear hO1 hO2 hN1 hgr hge ka kb X1' X2' hlx hac X1 X2 HO y0 z0 hb q;go_wp2
     go_roundw
     case rel=>exact ⟨i+1,by omega,by go_num,acc2,a2,c2,HN2,hl2,HF.out⟩
     case measure=>simp [intOf];omega
  · have i1:¬ (i:Int)<(ss.length:Int):=by omega
    have HE:Hid (N=acc):=by unfold Hid;rw [HN.out,List.drop_of_length_le (by omega)];rfl
    have y0:=X2.cell 0 rfl;have y1:=X2.cell 1 rfl;have x0:=X1.cell 0 rfl;have x1:=X1.cell 1 rfl;have z0:=X1.frozen 0;have z1:=X1.frozen 1;have Z:=boxA_q1 (boxA_q0 X1 (.slice a' acc.length c')) (.map none);have HF:Hid (OwS w.heap.size ((wr.setCell ⟨w.heap.size,0,none⟩ (.slice a' acc.length c')).setCell ⟨w.heap.size,1,none⟩ (.map none)) (.slice a' acc.length c') acc∧Below w.heap.size w ((wr.setCell ⟨w.heap.size,0,none⟩ (.slice a' acc.length c')).setCell ⟨w.heap.size,1,none⟩ (.map none))):=
     ⟨row_monoS (owS_lowN (owS_lowN hO (by omega) _) (by omega) _) (by omega),(hb.setCell (p:=⟨w.heap.size,0,none⟩) (Nat.le_refl _) _).setCell (p:=⟨w.heap.size,1,none⟩) (Nat.le_refl _) _⟩
    have HD:Hid (acc=dedF [] ss):=by unfold Hid;rw [← HE.out,HNN.out]
    clear hO hb HN HE HNN X1 X2;go_wp2
    have r0:=Z.cell 0 rfl;have r1:=Z.cell 1 rfl;refine bodyPost_ret (v:=.agg #[.slice a' acc.length c',.map none]) ?_ rfl ⟨a',c',acc,HD,rfl,HF.out⟩;simp [results,Tryz.results42,go_sem,r0,r1]
attribute [local go_sem] Oper.semAt_some
theorem info_frame:(Tryz.prog.info? 74).map (fun i=>(i.zero,i.size,i.bytes))=some (some (.agg #[.slice none 0 0,.map none]),2,32):=by kernel_rfl
theorem step_append_fr {ops:Array Oper} {o:Oper} {a:Act} {K:Act→World→Prop} {Q:Exit→Act→World→Prop} {E:Prop} {v:Value} {rs:List FRep} {r:FRep} {p:Nat} (hg:o.guard=none) (s x:Operand)
    (ho:o.op=.call { callee:=.builtin .append,args:=#[s,x],argTypes:=#[75,75] }) (hs:a.eval s=v) (hx:a.eval x=.slice (some ⟨p,0,none⟩) 1 1) (hO:w.ownsRow 0 74 2 v rs.length (frRow rs)) (hp:BoxA w p 74 #[.slice r.la r.ln r.lc,.map r.mb]) (hl:rs.length≤1000000)
    (hK:∀ v' w',w'.ownsRow 0 74 2 v' (rs.length+1) (frRow (rs++[r]))→w.grownBy w' v.ownBlock→(v'.ownBlock=v.ownBlock∨v'.ownBlock=some w.heap.size)→K (a.put o.dst v') w') :
    if Region.wanted o (yielded ops a.tmps)=true then Oper.wp Tryz.prog o a w K Q else E:=by
 rw [if_pos (by simp [Region.wanted,hg])];obtain ⟨i0,hi,hz0,hz1,hz2⟩:=info_parts info_frame;obtain ⟨v',w',hr,h2,h3,h4,h5⟩:=run_append_own_at (P:=Tryz.prog) w 0 75 o.type 74 i0 (.agg #[.slice none 0 0,.map none]) 2 32 Tryz.underlying75 hi hz0 hz1 hz2 rfl (by decide) v rs.length (frRow rs) hO ⟨p,0,none⟩ 1 1 (frRow [r]) rfl (by
  intro j u hj;rw [show (⟨p,0,none⟩:Addr).add j=⟨p,j,none⟩ by cases j <;> simp [Addr.add]];have hj2:j<2:=by
   rcases Nat.lt_or_ge j 2 with h' | h'
   · exact h'
   · rw [List.getElem?_eq_none (by simpa [frRow] using h')] at hj;cases hj
  refine hp.cell j ?_;rw [← hj];simp [frRow]) (frRow_one _) (by unfold maxLen;omega) (by omega) (Nat.zero_le _)
 unfold Oper.wp execOp;simp only [ho,resolve,invoke,builtin,Sem.run_bind,Sem.run_pure,Result.andThen_ok,List.map_toArray,List.map_cons,List.map_nil,hs,hx,hr];refine hK v' w' ?_ h3 h5;rw [frRow_app];exact h2
def pushE (T:List FrB) (ss:List ByteArray):Int:=if ss.all nameF=true then (if 64<ss.length then 25 else (if 65≤T.length then 24 else 0)) else 27
def pushT (T:List FrB) (ss:List ByteArray):List FrB:=if pushE T ss=0 then T++[⟨dedF [] ss,[]⟩] else T
section
variable {f:Nat} {M:Nat→Prop} {w:World} {tb:Nat} {T:List FrB}
theorem tPush_any {B:Nat} {a:Option Addr} (h:TabIs f M w tb T) (hR:RdS B w (.slice a ss.length c) ss) (hB:B≤w.heap.size) (hsz:∀ x∈ss,x.size≤9223372036854775807) :
    Calls Tryz.prog 15 #[.pointer (some ⟨tb,0,none⟩),.slice a ss.length c] w (TabAns f M w tb (pushE T ss) (pushT T ss)):=by
 obtain ⟨m0,ua,ucap,rs,hT⟩:=h;have HT:Hid (TabR f M w tb m0 ua ucap rs T):=hT;have HRW:Hid (RdS B w (.slice a ss.length c) ss):=hR;have hlen:=hT.len;clear hT;go_enter Tryz.func15,Tryz.ntmps15
 go_wp2_with fail
 refine (areNames_any hR hB hsz).mono ?_;rintro e v0 ⟨rfl,k0⟩;have hT0:=HT.out.below k0;have c2:=hT0.box.cell 2 rfl;have hR0:=HRW.out.below k0 hB;have hB0:B≤v0.heap.size:=by have:=k0.size;omega
 have HT0:Hid (TabR f M v0 tb m0 ua ucap rs T):=hT0;have HNO:Hid (∀ r w',pushE T ss=r→¬ r=0→Below w.heap.size w w'→TabAns f M w tb (pushE T ss) (pushT T ss) (.returned (.int .i64 r)) w'):=fun r w' h1 h2 h3=>by
  unfold pushT;rw [h1,if_neg h2];exact TabAns.no ⟨m0,ua,ucap,rs,HT.out⟩ h3
 have HK0:Hid (Below w.heap.size w v0):=k0;clear hR hT0 k0
 cases hn:ss.all nameF with
 | false=>
  have HF:Hid _:=HNO.out 27 v0 (by unfold pushE;rw [hn,if_neg (by simp)]) (by omega) HK0.out;clear hn HNO;go_wp2
  go_ret
  exact HF.out
 | true=>
 have HNM:Hid (ss.all nameF=true):=hn;clear hn;by_cases hl:64<ss.length
 · have HF:Hid _:=HNO.out 25 v0 (by unfold pushE;rw [if_pos HNM.out,if_pos hl]) (by omega) HK0.out
   have hl2:(64:Int)<(ss.length:Int):=by omega
   clear HNO hl;go_wp2
   go_ret
   exact HF.out
 by_cases hf:65≤T.length
 · have HF:Hid _:=HNO.out 24 v0 (by unfold pushE;rw [if_pos HNM.out,if_neg hl,if_pos hf]) (by omega) HK0.out
   have hl2:¬ (64:Int)<(ss.length:Int):=by omega
   have hf2:(64:Int)≤(rs.length:Int):=by omega
   clear HNO hl hf;go_wp2
   go_ret
   exact HF.out
 have HE:Hid (pushE T ss=0):=by unfold Hid pushE;rw [if_pos HNM.out,if_neg hl,if_neg hf]
 have hl2:¬ (64:Int)<(ss.length:Int):=by omega
 have hf2:¬ (64:Int)≤(rs.length:Int):=by omega
 have hss:ss.length≤64:=by omega
 have hrs:rs.length≤64:=by omega
 clear HNO hl hf HNM
 go_upto_region 9 with fail
 refine wp_region_noPanic ?_;obtain ⟨v,hv⟩:∃ v,v0.drew=v:=⟨_,rfl⟩;have HTv:Hid (TabR f M v tb m0 ua ucap rs T):=by subst hv;exact HT0.out.below (Below.refl _ _).drew
 have HKv:Hid (Below w.heap.size w v):=by subst hv;exact HK0.out.drew
 have HRD:Hid (RdS B v (.slice a ss.length c) ss):=by subst hv;exact hR0.below (Below.refl _ _).drew hB0
 have HBW:Hid (B≤v.heap.size):=by subst hv;exact hB0
 clear HT0 HK0 hR0 hB0 c2 HRW;have HBT:Hid (BoxA v tb 77 #[.slice none 0 0,.map m0,.slice ua rs.length ucap]):=HTv.out.box;have HRow:Hid (v.ownsRow 0 74 2 (.slice ua rs.length ucap) rs.length (frRow rs)):=HTv.out.row;have HRB:Hid (∀ (V:World) g,Below v.heap.size v V→(Value.slice ua rs.length ucap).ownBlock=some g→V.heap[g]? = v.heap[g]?):=fun V g hV hg=>by
  obtain ⟨_,cur,hc⟩:=HTv.out.ub hg;exact hV.block g (lt_of_block hc)
 have HNB:Hid (∀ e:(Value.slice ua rs.length ucap).ownBlock=some tb,False):=fun e=>by
  obtain ⟨_,cur,hc⟩:=HTv.out.ub e;have:=HTv.out.box;unfold BoxA at this;rw [hc] at this
  cases this
 have HC:Hid (∀ V,Below v.heap.size v V→(fun V=>V.cell? ⟨tb,2,none⟩=some (.slice ua rs.length ucap)) V):=fun V hV=>(HBT.out.below hV HBT.out.lt).cell 2 rfl;refine wp_region_M (m:=11) (S:=(fun V=>V.cell? ⟨tb,2,none⟩=some (.slice ua rs.length ucap))) (by kernel_rfl) (by rw [hv];exact HC.out v (Below.refl _ _)) (fun hS => ?_);rw [hv] at hS ⊢;clear hv;refine anyM_take (i:=0) (v:=.pointer (some ⟨tb,0,none⟩)) rfl (by kernel_rfl) (by kernel_rfl) (by kernel_rfl) (by kernel_rfl) (fun _ _ _ h=>h) (Or.inl ⟨by rfl,(by intro w hSw;(try dsimp only at hSw);go_simp)⟩) (by assumption) ?_;simp only [Act.put,List.setIfInBounds_toArray,List.set_cons_zero,List.set_cons_succ];refine anyM_take (i:=1) (v:=.pointer (some ⟨tb,0,none⟩)) rfl (by kernel_rfl) (by kernel_rfl) (by kernel_rfl) (by kernel_rfl) (fun _ _ _ h=>h) (Or.inl ⟨by rfl,(by intro w hSw;(try dsimp only at hSw);go_simp)⟩) (by assumption) ?_;simp only [Act.put,List.setIfInBounds_toArray,List.set_cons_zero,List.set_cons_succ];refine anyM_take (i:=2) (v:=.pointer (some ⟨tb,0,none⟩)) rfl (by kernel_rfl) (by kernel_rfl) (by kernel_rfl) (by kernel_rfl) (fun _ _ _ h=>h) (Or.inl ⟨by rfl,(by intro w hSw;(try dsimp only at hSw);go_simp)⟩) (by assumption) ?_;simp only [Act.put,List.setIfInBounds_toArray,List.set_cons_zero,List.set_cons_succ];refine anyM_take (i:=3) (v:=.pointer (some ⟨tb,2,none⟩)) rfl (by kernel_rfl) (by kernel_rfl) (by kernel_rfl) (by kernel_rfl) (fun _ _ _ h=>h) (Or.inl ⟨by rfl,(by intro w hSw;(try dsimp only at hSw);go_simp)⟩) (by assumption) ?_;simp only [Act.put,List.setIfInBounds_toArray,List.set_cons_zero,List.set_cons_succ];refine anyM_take (i:=4) (v:=.slice ua rs.length ucap) rfl (by kernel_rfl) (by kernel_rfl) (by kernel_rfl) (by kernel_rfl) (fun _ _ _ h=>h) (Or.inl ⟨by rfl,(by intro w hSw;(try dsimp only at hSw);go_simp)⟩) (by assumption) ?_;simp only [Act.put,List.setIfInBounds_toArray,List.set_cons_zero,List.set_cons_succ];refine anyM_take (i:=5) (v:=.slice a ss.length c) rfl (by kernel_rfl) (by kernel_rfl) (by kernel_rfl) (by kernel_rfl) (fun _ _ _ h=>h) (Or.inl ⟨by rfl,(by intro w hSw;(try dsimp only at hSw);go_simp)⟩) (by assumption) ?_;simp only [Act.put,List.setIfInBounds_toArray,List.set_cons_zero,List.set_cons_succ];refine anyM_one (i:=6) rfl (by kernel_rfl) (by kernel_rfl) (fun K hK => ?_);go_simp
 refine (localising_any HRD.out HBW.out (by omega)).mono ?_;rintro e w1 ⟨a',c',fs,HFS,rfl,hOw,q1⟩;have k1:Below v.heap.size v w1:=q1;have j1:=HC.out w1 k1;have HOW:Hid (OwS v.heap.size w1 (.slice a' fs.length c') fs):=hOw;clear hOw;go_simp
 refine hK.out _ _ (j1) (fun _ => ?_);clear hK K;refine anyM_one (i:=7) rfl (by kernel_rfl) (by kernel_rfl) (fun K hK => ?_);go_simp
 refine hK.out _ _ (HC.out _ (k1.trans ((below_alloc w1 _).mono k1.size))) (fun _ => ?_);clear hK K;refine anyM_one (i:=8) rfl (by kernel_rfl) (by kernel_rfl) (fun K hK => ?_);refine step_append_fr (rs:=rs) (r:=⟨a',fs.length,c',none⟩) (p:=w1.heap.size) (by rfl) _ _ (by rfl) (by rfl) (by rfl) (own_blockN HRow.out (fun g hg=>HRB.out _ _ (k1.trans ((below_alloc w1 _).mono k1.size)) hg)) (boxA_new w1 _ _) (by omega) ?_;intro v' w3 hR3 hG3 hB3;obtain ⟨ua',ucap',rfl⟩:=row_form2S hR3;have HR3:Hid (w3.ownsRow 0 74 2 (.slice ua' (rs.length+1) ucap') (rs.length+1) (frRow (rs++[⟨a',fs.length,c',none⟩]))):=hR3;have HG3:Hid ((w1.alloc (.cells #[.slice a' fs.length c',.map none] 74)).grownBy w3 (Value.slice ua rs.length ucap).ownBlock):=hG3;have HB3:Hid ((Value.slice ua' (rs.length+1) ucap').ownBlock=(Value.slice ua rs.length ucap).ownBlock∨(Value.slice ua' (rs.length+1) ucap').ownBlock=some (w1.alloc (.cells #[.slice a' fs.length c',.map none] 74)).heap.size):=hB3;have BT3:BoxA w3 tb 77 #[.slice none 0 0,.map m0,.slice ua rs.length ucap]:=boxA_gr (HBT.out.below (k1.trans ((below_alloc w1 _).mono k1.size)) HBT.out.lt) HG3.out (fun e=>HNB.out e);have c0:=BT3.cell 0 rfl;have c1:=BT3.cell 1 rfl;have c2:=BT3.cell 2 rfl;have f2:=BT3.frozen 2;clear hR3 hG3 hB3;refine hK.out _ _ (c2) (fun _ => ?_);clear hK K;simp only [Act.put,List.setIfInBounds_toArray,List.set_cons_zero,List.set_cons_succ];refine anyM_one (i:=9) rfl (by kernel_rfl) (by kernel_rfl) (fun K hK => ?_);go_simp
 refine hK.out _ _ (c2) (fun _ => ?_);clear hK K;refine anyM_take (i:=10) (v:=.pointer (some ⟨tb,2,none⟩)) rfl (by kernel_rfl) (by kernel_rfl) (by kernel_rfl) (by kernel_rfl) (fun _ _ _ h=>h) (Or.inl ⟨by rfl,(by intro w hSw;(try dsimp only at hSw);go_simp)⟩) (by assumption) ?_;simp only [Act.put,List.setIfInBounds_toArray,List.set_cons_zero,List.set_cons_succ];refine anyM_last rfl (by kernel_rfl) (fun K hK => ?_);go_simp
 refine hK.out _ _ (trivial) (fun _ => ?_);clear hK K;refine wpAnyH_done (by kernel_rfl) ?_ _;have HF:Hid (TabAns f M w tb (pushE T ss) (pushT T ss) (.returned (.int .i64 0)) (w3.setCell ⟨tb,2,none⟩ (.slice ua' (rs.length+1) ucap'))):=by
  have hsk:=k1.size;have hg:=HG3.out;have hgs:=hg.size;rw [World.size_alloc] at hgs;have hT:=HTv.out;have hnb:∀ p,ua'=some p→(∀ g,(Value.slice ua rs.length ucap).ownBlock=some g→g=p.block→M p.block)∧((Value.slice ua rs.length ucap).ownBlock=some p.block∨p.block=w1.heap.size+1):=fun p hp=>by
   subst hp;refine ⟨fun g h1 h2=>by rw [← h2];exact (hT.ub h1).1,?_⟩;rcases HB3.out with h1 | h1
   · exact Or.inl h1.symm
   · rw [World.size_alloc] at h1
     exact Or.inr (Option.some.inj h1)
  have hlt3:∀ p,ua'=some p→p.block<w3.heap.size:=fun p hp=>(HR3.out.lt p.block (by rw [hp];rfl)).2;have hRw:w3.ownsRow 0 74 2 (.slice ua' (rs++[(⟨a',fs.length,c',none⟩:FRep)]).length ucap') (rs++[(⟨a',fs.length,c',none⟩:FRep)]).length (frRow (rs++[⟨a',fs.length,c',none⟩])):=by
   rw [List.length_append];exact HR3.out
  have hX:=hT.reRow (M':=fun g=>M g∨∃ p,ua'=some p∧p.block=g) (w3:=w3) (ua':=ua') (ucap':=ucap') (rs':=rs++[⟨a',fs.length,c',none⟩]) (T':=T++[⟨fs,[]⟩]) (fun g hg=>Or.inl hg) (fun g hg'=>by
      rcases hg' with h1 | ⟨p,h1,h2⟩
      · have:=hT.lo g h1
        exact ⟨this.1,by omega⟩
      · have h3:=hlt3 p h1
        rcases (hnb p h1).2 with h4 | h4
        · have:=hT.lo p.block (hT.ub h4).1
          exact ⟨by omega,by omega⟩
        · have:=hT.box.lt
          exact ⟨by omega,by omega⟩) (fun g hg'=>by
      rcases hg' with h1 | ⟨p,h1,h2⟩
      · exact Or.inl h1
      · rcases (hnb p h1).2 with h4 | h4
        · exact Or.inl (by rw [← h2];exact (hT.ub h4).1)
        · exact Or.inr (by omega)) (by omega) (fun g hl hne=>by
      rw [hg.block g (by rw [World.size_alloc];omega) (fun e=>hne e.symm),(below_alloc w1 _).block g (by omega),k1.block g hl]) hRw (fun p hp=>Or.inr ⟨p,hp,rfl⟩) (by simp [hlen]) (fun k hk=>by
      rw [List.length_append,List.length_singleton] at hk;by_cases e:k<rs.length
      · refine Or.inl ⟨e,?_,?_⟩
        · rw [List.getD_eq_getElem?_getD,List.getElem?_append_left e,List.getD_eq_getElem?_getD]
        · rw [List.getD_eq_getElem?_getD,List.getElem?_append_left (by omega),List.getD_eq_getElem?_getD]
      · obtain rfl:k=rs.length:=by omega
        have q1:(rs++[(⟨a',fs.length,c',none⟩:FRep)]).getD rs.length fr0=⟨a',fs.length,c',none⟩:=by
         rw [List.getD_eq_getElem?_getD,List.getElem?_append_right (Nat.le_refl _),Nat.sub_self];rfl
        have q2:(T++[(⟨fs,[]⟩:FrB)]).getD (rs.length+1) fb0=⟨fs,[]⟩:=by
         rw [List.getD_eq_getElem?_getD,List.getElem?_append_right (by omega),hlen,Nat.sub_self];rfl
        rw [q1,q2];refine Or.inr ⟨rfl,rfl,rfl,?_⟩;refine (RdT.of_own HOW.out).imp (fun g hg'=>⟨by have:=hg'.2;omega,fun e => ?_⟩) (fun g hg' => ?_)
        · have h1:=hg'.1
          have h2:=hg'.2;rcases e with e | ⟨p,h3,h4⟩
          · have:=(hT.lo g e).2;omega
          · rcases (hnb p h3).2 with h5 | h5
            · have:=(hT.lo p.block (hT.ub h5).1).2;omega
            · omega
        · have h1:=hg'.1
          have h2:=hg'.2;rw [hg.block g (by rw [World.size_alloc];omega) (fun e=>by have:=(hT.lo g (hT.ub e.symm).1).2;omega),(below_alloc w1 _).block g (by omega)]) (by
      rw [List.getD_eq_getElem?_getD,List.getElem?_append_left (by omega),List.getD_eq_getElem?_getD])
  rw [show (rs++[(⟨a',fs.length,c',none⟩:FRep)]).length=rs.length+1 by simp] at hX;have hTab:TabIs f (fun g=>M g∨∃ p,ua'=some p∧p.block=g) (w3.setCell ⟨tb,2,none⟩ (.slice ua' (rs.length+1) ucap')) tb (pushT T ss):=by
   unfold pushT;rw [if_pos HE.out,← HFS.out];exact ⟨m0,ua',ucap',_,hX⟩
  have hKp:KpM M v (w3.setCell ⟨tb,2,none⟩ (.slice ua' (rs.length+1) ucap')):=by
   refine ⟨hg.os.trans k1.os,hg.tape.trans k1.tape,hg.output.trans k1.output,?_,fun g hl hM => ?_⟩
   · simp [World.setCell];omega
   · rw [setT_other (fun e=>hM (by rw [← e];exact hT.mt)),hg.block g (by rw [World.size_alloc];omega) (fun e=>hM (hT.ub e.symm).1),(below_alloc w1 _).block g (by omega),k1.block g hl]
  refine TabAns.from (w2:=v) ⟨by rw [HE.out],_,hTab,hKp,fun g hg' => ?_⟩ HKv.out;rcases hg' with h1 | ⟨p,h1,h2⟩
  · exact Or.inl h1
  · rcases (hnb p h1).2 with h4 | h4
    · exact Or.inl (by rw [← h2];exact (hT.ub h4).1)
    · exact Or.inr (by omega)
 clear HTv HKv HRD HBW HBT HRow HRB HNB HC HR3 HG3 HB3 HOW HFS;dsimp only [NoPanic];go_wp2
 go_ret
 exact HF.out
end
end
section
open Go.RowKit
attribute [local go_sem] Oper.semAt_some
theorem setRow_box (h:BoxA w g ty cur):BoxA (w.setRow g cur) g ty cur∧w.grownBy (w.setRow g cur) (some g):=by
 refine ⟨?_,rfl,rfl,rfl,by simp [World.setRow],fun k hk hne => ?_⟩
 · unfold BoxA at h ⊢
   simp [World.setRow,Array.getElem?_modify,h]
 · have:¬ g=k:=fun e=>hne (by rw [e])
   simp [World.setRow,Array.getElem?_modify,this]
theorem step_append_nofr {ops:Array Oper} {o:Oper} {a:Act} {K:Act→World→Prop} {Q:Exit→Act→World→Prop} {E:Prop} {n cap:Nat} {ad:Addr} (hg:o.guard=none) (s x:Operand)
    (ho:o.op=.call { callee:=.builtin .append,args:=#[s,x],argTypes:=#[75,75] }) (hs:a.eval s=.slice (some ⟨g,0,none⟩) n cap) (hx:a.eval x=.slice (some ad) 0 c) (hO:BoxA w g 74 cur) (hc:n≤cap) (hsz:n*2≤cur.size)
    (hK:∀ w',BoxA w' g 74 cur→w.grownBy w' (some g)→K (a.put o.dst (.slice (some ⟨g,0,none⟩) n cap)) w') :
    if Region.wanted o (yielded ops a.tmps)=true then Oper.wp Tryz.prog o a w K Q else E:=by
 rw [if_pos (by simp [Region.wanted,hg])];obtain ⟨i0,hi,hz0,hz1,hz2⟩:=info_parts info_frame;have hr:=run_append_room (P:=Tryz.prog) w 75 o.type 74 i0 Tryz.underlying75 hi g n cap cur hO ad 0 c [] (by simp) (by simp) (by simp) hc (by rw [hz1];simpa using hsz);rw [show (cur.toList.take (n*i0.size)++([]:List Value)++cur.toList.drop (n*i0.size+([]:List Value).length)).toArray=cur by simp,Nat.add_zero] at hr;obtain ⟨h1,h2⟩:=setRow_box hO;unfold Oper.wp execOp;simp only [ho,resolve,invoke,builtin,Sem.run_bind,Sem.run_pure,Result.andThen_ok,List.map_toArray,List.map_cons,List.map_nil,hs,hx,hr];exact hK _ h1 h2
theorem zero_frame (w:World):(zeroValue 74).run Tryz.prog w=.ok (.agg #[.slice none 0 0,.map none]) w:=by kernel_rfl
theorem clear_fr (w:World) (ty:TypeId) (g o c:Nat) {cur:Array Value} (h:BoxA w g 74 cur) (hs:o+2≤cur.size) :
    (Builtin.clear_ #[75] ty #[.slice (some ⟨g,o,none⟩) 1 c]).run Tryz.prog w=.ok (.tuple #[]) (w.setCells g o [.slice none 0 0,.map none]):=by
 have hcell:∀ j,j<2→(w.cell? ⟨g,o+j,none⟩).isSome=true:=fun j hj=>by
  rw [h.cell (o+j) (v:=cur[o+j]'(by omega)) (by rw [Array.getElem?_eq_getElem])];rfl
 have hst:=run_storeCells_cells (P:=Tryz.prog) g o [.slice none 0 0,.map none] 0 w (by simpa using hcell) (fun j _=>h.frozen _) (by
  intro v hv;simp at hv;rcases hv with rfl | rfl <;> rfl)
 simp only [Nat.add_zero] at hst;simp [Builtin.clear_,run_underlying Tryz.underlying75,zero_frame,Builtin.zeroCells,Value.cells];rw [show List.map (fun i=>[Value.slice none 0 0,Value.map none][i % 2]?.getD default) (List.range 2)=[.slice none 0 0,.map none] from rfl,hst];rfl
theorem delFr_any {n cap:Nat} (hB:BoxA w g 74 cur) (hs:cur.size=cap*2) (hn:n+1≤cap) (hcap:cap≤9223372036854775807) (hn2:n≤1000000) :
    Calls Tryz.prog 47 #[.slice (some ⟨g,0,none⟩) (n+1) cap,.int .i64 n,.int .i64 ((n:Int)+1)] w fun e w'=>e=.returned (.slice (some ⟨g,0,none⟩) n cap)∧(∃ cur',BoxA w' g 74 cur'∧cur'.size=cap*2∧cur'.toList.take (n*2)=cur.toList.take (n*2))∧w.grownBy w' (some g):=by
 have i0:(0:Int)≤(n:Int):=by omega
 have i1:(n:Int)≤(n:Int)+1:=by omega
 have i2:(n:Int)+1≤(cap:Int):=by omega
 have i3:((n:Int)==(n:Int)+1)=false:=by rw [beq_eq_false_iff_ne];omega
 have i4:(n:Int)≤(cap:Int):=by omega
 have i5:((n:Int)+1).toNat=n+1:=by omega
 have i6:(0:Int)≤(n:Int)+1:=by omega
 go_enter Tryz.func47,Tryz.ntmps47
 go_upto_region 5 with fail
 refine wp_region_noPanic ?_;obtain ⟨v,hv⟩:∃ v,w.drew=v:=⟨_,rfl⟩;have HBX:Hid (BoxA v g 74 cur):=by subst hv;exact hB
 have HSZ:Hid (cur.size=cap*2):=hs;have HGV:Hid (∀ W,v.grownBy W (some g)→w.grownBy W (some g)):=by
  intro W hW;subst hv;exact ⟨hW.os,hW.tape,hW.output,hW.size,hW.block⟩
 clear hB hs;refine wp_region_held_drew (S:=fun _=>True) (by kernel_rfl) trivial (fun hS => ?_);rw [hv] at ⊢;clear hv;refine wpAnyH_take (i:=0) (oi:={ dst:=some 20,op:=Op.move (Operand.tmp 0),type:=75,pos:= "slices.go:232",after:=#[],guard:=none }) (v:=.slice (some ⟨g,0,none⟩) (n+1) cap) rfl (by kernel_rfl) (by kernel_rfl) (by kernel_rfl) (fun _ _ _ h=>h) (Or.inl ⟨by rfl,(by intro w hSw;(try dsimp only at hSw);go_simp)⟩) (by trivial) ?_;simp only [Act.put,List.setIfInBounds_toArray,List.set_cons_zero,List.set_cons_succ];refine wpAnyH_take (i:=1) (oi:={ dst:=some 21,op:=Op.move (Operand.tmp 1),type:=3,pos:= "slices.go:232",after:=#[],guard:=none }) (v:=.int .i64 n) rfl (by kernel_rfl) (by kernel_rfl) (by kernel_rfl) (fun _ _ _ h=>h) (Or.inl ⟨by rfl,(by intro w hSw;(try dsimp only at hSw);go_simp)⟩) (by trivial) ?_;simp only [Act.put,List.setIfInBounds_toArray,List.set_cons_zero,List.set_cons_succ];refine wpAnyH_take (i:=2) (oi:={ dst:=some 22,op:=Op.slice 75 (Operand.tmp 20) none (some (Operand.tmp 21)) none,type:=75,pos:= "slices.go:232",after:=#[{ on:=0,ground:=Ground.data },{ on:=1,ground:=Ground.data }],guard:=none }) (v:=.slice (some ⟨g,0,none⟩) n cap) rfl (by kernel_rfl) (by kernel_rfl) (by kernel_rfl) (fun _ _ _ h=>h) (Or.inl ⟨by rfl,(by intro w hSw;(try dsimp only at hSw);go_simp)⟩) (by trivial) ?_;simp only [Act.put,List.setIfInBounds_toArray,List.set_cons_zero,List.set_cons_succ];refine wpAnyH_take (i:=3) (oi:={ dst:=some 23,op:=Op.move (Operand.tmp 0),type:=75,pos:= "slices.go:232",after:=#[],guard:=none }) (v:=.slice (some ⟨g,0,none⟩) (n+1) cap) rfl (by kernel_rfl) (by kernel_rfl) (by kernel_rfl) (fun _ _ _ h=>h) (Or.inl ⟨by rfl,(by intro w hSw;(try dsimp only at hSw);go_simp)⟩) (by trivial) ?_;simp only [Act.put,List.setIfInBounds_toArray,List.set_cons_zero,List.set_cons_succ];refine wpAnyH_take (i:=4) (oi:={ dst:=some 24,op:=Op.move (Operand.tmp 2),type:=3,pos:= "slices.go:232",after:=#[],guard:=none }) (v:=.int .i64 ((n:Int)+1)) rfl (by kernel_rfl) (by kernel_rfl) (by kernel_rfl) (fun _ _ _ h=>h) (Or.inl ⟨by rfl,(by intro w hSw;(try dsimp only at hSw);go_simp)⟩) (by trivial) ?_;simp only [Act.put,List.setIfInBounds_toArray,List.set_cons_zero,List.set_cons_succ];refine wpAnyH_take (i:=5) (oi:={ dst:=some 25,op:=Op.slice 75 (Operand.tmp 23) (some (Operand.tmp 24)) none none,type:=75,pos:= "slices.go:232",after:=#[{ on:=3,ground:=Ground.data },{ on:=4,ground:=Ground.data }],guard:=none }) (v:=.slice (some (if cap=n+1 then ⟨g,0,none⟩ else ⟨g,(n+1)*2,none⟩)) 0 (cap - (n+1))) rfl (by kernel_rfl) (by kernel_rfl) (by kernel_rfl) (fun _ _ _ h=>h) (Or.inl ⟨by rfl,(by intro w hSw;(try dsimp only at hSw);by_cases hz:cap=n+1 <;> first | (rw [if_pos hz];go_simp;done) | (rw [if_neg hz];go_simp;done))⟩) (by trivial) ?_
 simp only [Act.put,List.setIfInBounds_toArray,List.set_cons_zero,List.set_cons_succ];generalize hAD:(if cap=n+1 then (⟨g,0,none⟩:Addr) else ⟨g,(n+1)*2,none⟩)=ad;clear hAD;refine wpAnyH_ready (rs:=[6]) (by kernel_rfl) (by simp) ?_;refine AllReadyH.cons (o:={ dst:=some 26,op:=Op.call { callee:=Callee.builtin Builtin.append,args:=#[Operand.tmp 22,Operand.tmp 25],argTypes:=#[75,75] },type:=75,pos:= "slices.go:232",after:=#[{ on:=2,ground:=Ground.data },{ on:=5,ground:=Ground.data }],guard:=none }) rfl (fun K hK => ?_) AllReadyH.nil;refine step_append_nofr (cap:=cap) (n:=n) (g:=g) (cur:=cur) (ad:=ad) (c:=cap - (n+1)) (by rfl) _ _ (by rfl) (by rfl) (by rfl) HBX.out (by omega) (by have:=HSZ.out;omega) ?_;intro w2 hb2 hg2;have HB2:Hid (BoxA w2 g 74 cur):=hb2;have HG2:Hid (v.grownBy w2 (some g)):=hg2;clear hb2 hg2;refine hK.out _ _ trivial (fun _ => ?_);clear hK K;simp only [Act.put,List.setIfInBounds_toArray,List.set_cons_zero,List.set_cons_succ];refine wpAnyH_take (i:=7) (oi:={ dst:=some 0,op:=Op.assign (Operand.tmp 26),type:=75,pos:= "slices.go:232",after:=#[{ on:=6,ground:=Ground.data },{ on:=6,ground:=Ground.chain },{ on:=0,ground:=Ground.phase },{ on:=1,ground:=Ground.phase },{ on:=2,ground:=Ground.phase },{ on:=3,ground:=Ground.phase },{ on:=4,ground:=Ground.phase },{ on:=5,ground:=Ground.phase },{ on:=6,ground:=Ground.phase }],guard:=none }) (v:=.slice (some ⟨g,0,none⟩) n cap) rfl (by kernel_rfl) (by kernel_rfl) (by kernel_rfl) (fun _ _ _ h=>h) (Or.inl ⟨by rfl,(by intro w hSw;(try dsimp only at hSw);go_simp)⟩) (by trivial) ?_;simp only [Act.put,List.setIfInBounds_toArray,List.set_cons_zero,List.set_cons_succ];refine wpAnyH_done (by kernel_rfl) ?_ _;dsimp only [NoPanic];have hcl:=fun ty=>clear_fr w2 ty g (n*2) (cap - n) HB2.out (by have:=HSZ.out;omega);obtain ⟨cur',q1,q2,q3⟩:=clears [.slice none 0 0,.map none] (n*2) HB2.out;have hgr:=setCells_grown [.slice none 0 0,.map none] (n*2) HG2.out;have HF:Hid ((∃ cur',BoxA (w2.setCells g (n*2) [.slice none 0 0,.map none]) g 74 cur'∧cur'.size=cap*2∧cur'.toList.take (n*2)=cur.toList.take (n*2))∧w.grownBy (w2.setCells g (n*2) [.slice none 0 0,.map none]) (some g)):=⟨⟨cur',q1,by rw [q2];exact HSZ.out,q3⟩,HGV.out _ hgr⟩;clear HBX HSZ HGV q1 q2 q3 hgr HB2 HG2;go_wp2
 go_ret
 exact ⟨rfl,HF.out⟩
end
section
open Go.RowKit
attribute [local go_sem] Oper.semAt_some
def popE (T:List FrB):Int:=if T.length≤1 then 23 else 0
def popT (T:List FrB):List FrB:=if T.length≤1 then T else T.take (T.length - 1)
section
variable {f:Nat} {M:Nat→Prop} {w:World} {tb:Nat} {T:List FrB}
theorem getD_take {α:Type} (l:List α) (k i:Nat) (d:α) (h:i<k):(l.take k).getD i d=l.getD i d:=by
 rw [List.getD_eq_getElem?_getD,List.getElem?_take,if_pos h,List.getD_eq_getElem?_getD]
theorem tPop_any (h:TabIs f M w tb T) (hl:T.length≤1000000) :
    Calls Tryz.prog 20 #[.pointer (some ⟨tb,0,none⟩)] w (TabAns f M w tb (popE T) (popT T)):=by
 obtain ⟨m0,ua,ucap,rs,hT⟩:=h;have hlen:=hT.len;by_cases h1:T.length≤1
 · have hr0:rs.length=0:=by omega
   have c2:=hT.box.cell 2 rfl;have hr:rs=[]:=List.eq_nil_of_length_eq_zero hr0;have HF:Hid (TabAns f M w tb (popE T) (popT T) (.returned (.int .i64 23)) w):=by
    unfold Hid popE popT;rw [if_pos h1,if_pos h1];exact TabAns.no ⟨m0,ua,ucap,rs,hT⟩ (Below.refl _ _)
   rw [hr0] at c2;clear hT hlen hr hr0 h1 hl;go_enter Tryz.func20,Tryz.ntmps20;go_wp2
   go_ret
   exact HF.out
 obtain ⟨n,hn⟩:∃ n,rs.length=n+1:=⟨rs.length - 1,by omega⟩;have hn2:n≤1000000:=by omega
 have hTn:T.length=n+2:=by omega
 obtain ⟨g,cur,rfl,hcur,hcap1,hcap2,hsz,htk⟩:∃ g cur,ua=some ⟨g,0,none⟩∧BoxA w g 74 cur∧n+1≤ucap∧ucap≤9223372036854775807∧cur.size=ucap*2∧cur.toList.take ((n+1)*2)=frRow rs:=by
  obtain ⟨_,⟨hv,h0⟩ | ⟨g,cap,cur,hv,_,r2,r3,r4,r5,r6⟩⟩:=hT.row
  · omega
  · obtain ⟨rfl,_,rfl⟩:=Value.slice.inj hv
    exact ⟨g,cur,rfl,r2,by omega,r4,r5,by rw [← hn];exact r6⟩
 have HT:Hid (TabR f M w tb m0 (some ⟨g,0,none⟩) ucap rs T):=hT;have HBT0:Hid (BoxA w tb 77 #[.slice none 0 0,.map m0,.slice (some ⟨g,0,none⟩) (n+1) ucap]):=by unfold Hid;rw [← hn];exact hT.box
 have HN:Hid (rs.length=n+1∧T.length=n+2):=⟨hn,hTn⟩;have HTK:Hid (cur.toList.take ((n+1)*2)=frRow rs):=htk;have c2:=HBT0.out.cell 2 rfl;have i1:((n:Int)+1==0)=false:=by rw [beq_eq_false_iff_ne];omega
 have i2:IntKind.i64.wrap ((n:Int)+1 - 1)=(n:Int):=by rw [IntKind.wrap_i64];omega
 have i3:IntKind.i64.wrap (n:Int)=(n:Int):=by rw [IntKind.wrap_i64];omega
 clear hT hlen hn hTn h1 hl htk;go_enter Tryz.func20,Tryz.ntmps20
 go_upto_region 5 with fail
 refine wp_region_noPanic ?_;obtain ⟨v,hv⟩:∃ v,w.drew=v:=⟨_,rfl⟩;have HTv:Hid (TabR f M v tb m0 (some ⟨g,0,none⟩) ucap rs T):=by subst hv;exact HT.out.below (Below.refl _ _).drew
 have HKv:Hid (Below w.heap.size w v):=by subst hv;exact (Below.refl _ _).drew
 have HBT:Hid (BoxA v tb 77 #[.slice none 0 0,.map m0,.slice (some ⟨g,0,none⟩) (n+1) ucap]):=by subst hv;exact HBT0.out
 have HBX:Hid (BoxA v g 74 cur):=by subst hv;exact hcur
 have HSZ:Hid (cur.size=ucap*2):=hsz;have HCP:Hid (n+1≤ucap∧ucap≤9223372036854775807):=⟨hcap1,hcap2⟩;have HNB:Hid (some g=some tb→False):=fun e=>by
  cases e
  have:=HBT.out;unfold BoxA at this;have h2:=HBX.out;unfold BoxA at h2;rw [h2] at this
  cases this
 clear HT HBT0 hcur hsz hcap1 hcap2 c2;have hS0:(fun V=>V.cell? ⟨tb,2,none⟩=some (.slice (some ⟨g,0,none⟩) (n+1) ucap)) v:=HBT.out.cell 2 rfl;refine wp_region_M (m:=19) (S:=(fun V=>V.cell? ⟨tb,2,none⟩=some (.slice (some ⟨g,0,none⟩) (n+1) ucap))) (by kernel_rfl) (by rw [hv];exact hS0) (fun hS => ?_);rw [hv] at hS ⊢;clear hv hS0;refine anyM_take (i:=0) (oi:={ dst:=some 13,op:=Op.move (Operand.tmp 0),type:=30,pos:= "names.go:126",after:=#[],guard:=none }) (v:=.pointer (some ⟨tb,0,none⟩)) rfl (by kernel_rfl) (by kernel_rfl) (by kernel_rfl) (by kernel_rfl) (fun _ _ _ h=>h) (Or.inl ⟨by rfl,(by intro w hSw;(try dsimp only at hSw);go_simp)⟩) (by assumption) ?_;simp only [Act.put,List.setIfInBounds_toArray,List.set_cons_zero,List.set_cons_succ];refine anyM_take (i:=1) (oi:={ dst:=some 14,op:=Op.move (Operand.tmp 0),type:=30,pos:= "names.go:126",after:=#[],guard:=none }) (v:=.pointer (some ⟨tb,0,none⟩)) rfl (by kernel_rfl) (by kernel_rfl) (by kernel_rfl) (by kernel_rfl) (fun _ _ _ h=>h) (Or.inl ⟨by rfl,(by intro w hSw;(try dsimp only at hSw);go_simp)⟩) (by assumption) ?_;simp only [Act.put,List.setIfInBounds_toArray,List.set_cons_zero,List.set_cons_succ];refine anyM_take (i:=2) (oi:={ dst:=some 15,op:=Op.nilCheck (Operand.tmp 14),type:=0,pos:= "names.go:126",after:=#[{ on:=1,ground:=Ground.data }],guard:=none }) (v:=.pointer (some ⟨tb,0,none⟩)) rfl (by kernel_rfl) (by kernel_rfl) (by kernel_rfl) (by kernel_rfl) (fun _ _ _ h=>h) (Or.inl ⟨by rfl,(by intro w hSw;(try dsimp only at hSw);go_simp)⟩) (by assumption) ?_;simp only [Act.put,List.setIfInBounds_toArray,List.set_cons_zero,List.set_cons_succ];refine anyM_take (i:=3) (oi:={ dst:=some 16,op:=Op.fieldAddr 77 (Operand.tmp 15) 1,type:=0,pos:= "names.go:126",after:=#[{ on:=2,ground:=Ground.data }],guard:=none }) (v:=.pointer (some ⟨tb,2,none⟩)) rfl (by kernel_rfl) (by kernel_rfl) (by kernel_rfl) (by kernel_rfl) (fun _ _ _ h=>h) (Or.inl ⟨by rfl,(by intro w hSw;(try dsimp only at hSw);go_simp)⟩) (by assumption) ?_;simp only [Act.put,List.setIfInBounds_toArray,List.set_cons_zero,List.set_cons_succ];refine anyM_take (i:=4) (oi:={ dst:=some 17,op:=Op.load 75 (Operand.tmp 16),type:=75,pos:= "names.go:126",after:=#[{ on:=3,ground:=Ground.data }],guard:=none }) (v:=.slice (some ⟨g,0,none⟩) (n+1) ucap) rfl (by kernel_rfl) (by kernel_rfl) (by kernel_rfl) (by kernel_rfl) (fun _ _ _ h=>h) (Or.inl ⟨by rfl,(by intro w hSw;(try dsimp only at hSw);go_simp)⟩) (by assumption) ?_;simp only [Act.put,List.setIfInBounds_toArray,List.set_cons_zero,List.set_cons_succ];refine anyM_take (i:=5) (oi:={ dst:=some 18,op:=Op.move (Operand.tmp 0),type:=30,pos:= "names.go:126",after:=#[],guard:=none }) (v:=.pointer (some ⟨tb,0,none⟩)) rfl (by kernel_rfl) (by kernel_rfl) (by kernel_rfl) (by kernel_rfl) (fun _ _ _ h=>h) (Or.inl ⟨by rfl,(by intro w hSw;(try dsimp only at hSw);go_simp)⟩) (by assumption) ?_;simp only [Act.put,List.setIfInBounds_toArray,List.set_cons_zero,List.set_cons_succ];refine anyM_take (i:=6) (oi:={ dst:=some 19,op:=Op.nilCheck (Operand.tmp 18),type:=0,pos:= "names.go:126",after:=#[{ on:=5,ground:=Ground.data }],guard:=none }) (v:=.pointer (some ⟨tb,0,none⟩)) rfl (by kernel_rfl) (by kernel_rfl) (by kernel_rfl) (by kernel_rfl) (fun _ _ _ h=>h) (Or.inl ⟨by rfl,(by intro w hSw;(try dsimp only at hSw);go_simp)⟩) (by assumption) ?_;simp only [Act.put,List.setIfInBounds_toArray,List.set_cons_zero,List.set_cons_succ];refine anyM_take (i:=7) (oi:={ dst:=some 20,op:=Op.fieldAddr 77 (Operand.tmp 19) 1,type:=0,pos:= "names.go:126",after:=#[{ on:=6,ground:=Ground.data }],guard:=none }) (v:=.pointer (some ⟨tb,2,none⟩)) rfl (by kernel_rfl) (by kernel_rfl) (by kernel_rfl) (by kernel_rfl) (fun _ _ _ h=>h) (Or.inl ⟨by rfl,(by intro w hSw;(try dsimp only at hSw);go_simp)⟩) (by assumption) ?_;simp only [Act.put,List.setIfInBounds_toArray,List.set_cons_zero,List.set_cons_succ]
 refine anyM_take (i:=8) (oi:={ dst:=some 21,op:=Op.load 75 (Operand.tmp 20),type:=75,pos:= "names.go:126",after:=#[{ on:=7,ground:=Ground.data }],guard:=none }) (v:=.slice (some ⟨g,0,none⟩) (n+1) ucap) rfl (by kernel_rfl) (by kernel_rfl) (by kernel_rfl) (by kernel_rfl) (fun _ _ _ h=>h) (Or.inl ⟨by rfl,(by intro w hSw;(try dsimp only at hSw);go_simp)⟩) (by assumption) ?_;simp only [Act.put,List.setIfInBounds_toArray,List.set_cons_zero,List.set_cons_succ];refine anyM_take (i:=9) (oi:={ dst:=some 22,op:=Op.call { callee:=Callee.builtin Builtin.len,args:=#[Operand.tmp 21],argTypes:=#[75] },type:=3,pos:= "names.go:126",after:=#[{ on:=8,ground:=Ground.data }],guard:=none }) (v:=.int .i64 ((n:Int)+1)) rfl (by kernel_rfl) (by kernel_rfl) (by kernel_rfl) (by kernel_rfl) (fun _ _ _ h=>h) (Or.inl ⟨by rfl,(by intro w hSw;(try dsimp only at hSw);go_simp)⟩) (by assumption) ?_;simp only [Act.put,List.setIfInBounds_toArray,List.set_cons_zero,List.set_cons_succ];refine anyM_take (i:=10) (oi:={ dst:=some 23,op:=Op.binOp BinOp.sub 3 (Operand.tmp 22) (Operand.const (Value.int IntKind.i64 1)) 3,type:=3,pos:= "names.go:126",after:=#[{ on:=9,ground:=Ground.data }],guard:=none }) (v:=.int .i64 n) rfl (by kernel_rfl) (by kernel_rfl) (by kernel_rfl) (by kernel_rfl) (fun _ _ _ h=>h) (Or.inl ⟨by rfl,(by intro w hSw;(try dsimp only at hSw);go_simp)⟩) (by assumption) ?_;simp only [Act.put,List.setIfInBounds_toArray,List.set_cons_zero,List.set_cons_succ];refine anyM_take (i:=11) (oi:={ dst:=some 24,op:=Op.move (Operand.tmp 0),type:=30,pos:= "names.go:126",after:=#[],guard:=none }) (v:=.pointer (some ⟨tb,0,none⟩)) rfl (by kernel_rfl) (by kernel_rfl) (by kernel_rfl) (by kernel_rfl) (fun _ _ _ h=>h) (Or.inl ⟨by rfl,(by intro w hSw;(try dsimp only at hSw);go_simp)⟩) (by assumption) ?_;simp only [Act.put,List.setIfInBounds_toArray,List.set_cons_zero,List.set_cons_succ];refine anyM_take (i:=12) (oi:={ dst:=some 25,op:=Op.nilCheck (Operand.tmp 24),type:=0,pos:= "names.go:126",after:=#[{ on:=11,ground:=Ground.data }],guard:=none }) (v:=.pointer (some ⟨tb,0,none⟩)) rfl (by kernel_rfl) (by kernel_rfl) (by kernel_rfl) (by kernel_rfl) (fun _ _ _ h=>h) (Or.inl ⟨by rfl,(by intro w hSw;(try dsimp only at hSw);go_simp)⟩) (by assumption) ?_;simp only [Act.put,List.setIfInBounds_toArray,List.set_cons_zero,List.set_cons_succ];refine anyM_take (i:=13) (oi:={ dst:=some 26,op:=Op.fieldAddr 77 (Operand.tmp 25) 1,type:=0,pos:= "names.go:126",after:=#[{ on:=12,ground:=Ground.data }],guard:=none }) (v:=.pointer (some ⟨tb,2,none⟩)) rfl (by kernel_rfl) (by kernel_rfl) (by kernel_rfl) (by kernel_rfl) (fun _ _ _ h=>h) (Or.inl ⟨by rfl,(by intro w hSw;(try dsimp only at hSw);go_simp)⟩) (by assumption) ?_;simp only [Act.put,List.setIfInBounds_toArray,List.set_cons_zero,List.set_cons_succ];refine anyM_take (i:=14) (oi:={ dst:=some 27,op:=Op.load 75 (Operand.tmp 26),type:=75,pos:= "names.go:126",after:=#[{ on:=13,ground:=Ground.data }],guard:=none }) (v:=.slice (some ⟨g,0,none⟩) (n+1) ucap) rfl (by kernel_rfl) (by kernel_rfl) (by kernel_rfl) (by kernel_rfl) (fun _ _ _ h=>h) (Or.inl ⟨by rfl,(by intro w hSw;(try dsimp only at hSw);go_simp)⟩) (by assumption) ?_;simp only [Act.put,List.setIfInBounds_toArray,List.set_cons_zero,List.set_cons_succ];refine anyM_take (i:=15) (oi:={ dst:=some 28,op:=Op.call { callee:=Callee.builtin Builtin.len,args:=#[Operand.tmp 27],argTypes:=#[75] },type:=3,pos:= "names.go:126",after:=#[{ on:=14,ground:=Ground.data }],guard:=none }) (v:=.int .i64 ((n:Int)+1)) rfl (by kernel_rfl) (by kernel_rfl) (by kernel_rfl) (by kernel_rfl) (fun _ _ _ h=>h) (Or.inl ⟨by rfl,(by intro w hSw;(try dsimp only at hSw);go_simp)⟩) (by assumption) ?_;simp only [Act.put,List.setIfInBounds_toArray,List.set_cons_zero,List.set_cons_succ]
 refine anyM_one (i:=16) (o:={ dst:=some 29,op:=Op.call { callee:=Callee.value (Operand.func 47),args:=#[Operand.tmp 17,Operand.tmp 23,Operand.tmp 28],argTypes:=#[75,3,3] },type:=75,pos:= "names.go:126",after:=#[{ on:=4,ground:=Ground.data },{ on:=10,ground:=Ground.data },{ on:=15,ground:=Ground.data }],guard:=none }) rfl (by kernel_rfl) (by kernel_rfl) (fun K hK => ?_);go_simp
 refine (delFr_any HBX.out HSZ.out (by have:=HCP.out.1;omega) HCP.out.2 (by omega)).mono ?_;rintro e w3 ⟨rfl,⟨cur',q1,q2,q3⟩,q4⟩;have HD3:Hid (BoxA w3 g 74 cur'∧cur'.size=ucap*2∧cur'.toList.take (n*2)=cur.toList.take (n*2)):=⟨q1,q2,q3⟩;have HG3:Hid (v.grownBy w3 (some g)):=q4;have BT3:BoxA w3 tb 77 #[.slice none 0 0,.map m0,.slice (some ⟨g,0,none⟩) (n+1) ucap]:=boxA_gr HBT.out HG3.out (fun e=>HNB.out e);have c2:=BT3.cell 2 rfl;have f2:=BT3.frozen 2;clear q1 q2 q3 q4;go_simp
 refine hK.out _ _ (c2) (fun _ => ?_);clear hK K;refine anyM_one (i:=17) (o:={ dst:=some 30,op:=Op.nilCheck (Operand.tmp 13),type:=0,pos:= "names.go:126",after:=#[{ on:=0,ground:=Ground.data },{ on:=0,ground:=Ground.phase },{ on:=1,ground:=Ground.phase },{ on:=2,ground:=Ground.phase },{ on:=3,ground:=Ground.phase },{ on:=4,ground:=Ground.phase },{ on:=5,ground:=Ground.phase },{ on:=6,ground:=Ground.phase },{ on:=7,ground:=Ground.phase },{ on:=8,ground:=Ground.phase },{ on:=9,ground:=Ground.phase },{ on:=10,ground:=Ground.phase },{ on:=11,ground:=Ground.phase },{ on:=12,ground:=Ground.phase },{ on:=13,ground:=Ground.phase },{ on:=14,ground:=Ground.phase },{ on:=15,ground:=Ground.phase },{ on:=16,ground:=Ground.phase }],guard:=none }) rfl (by kernel_rfl) (by kernel_rfl) (fun K hK => ?_);go_simp
 refine hK.out _ _ (c2) (fun _ => ?_);clear hK K;refine anyM_take (i:=18) (oi:={ dst:=some 31,op:=Op.fieldAddr 77 (Operand.tmp 30) 1,type:=0,pos:= "names.go:126",after:=#[{ on:=17,ground:=Ground.data },{ on:=0,ground:=Ground.phase },{ on:=1,ground:=Ground.phase },{ on:=2,ground:=Ground.phase },{ on:=3,ground:=Ground.phase },{ on:=4,ground:=Ground.phase },{ on:=5,ground:=Ground.phase },{ on:=6,ground:=Ground.phase },{ on:=7,ground:=Ground.phase },{ on:=8,ground:=Ground.phase },{ on:=9,ground:=Ground.phase },{ on:=10,ground:=Ground.phase },{ on:=11,ground:=Ground.phase },{ on:=12,ground:=Ground.phase },{ on:=13,ground:=Ground.phase },{ on:=14,ground:=Ground.phase },{ on:=15,ground:=Ground.phase },{ on:=16,ground:=Ground.phase }],guard:=none }) (v:=.pointer (some ⟨tb,2,none⟩)) rfl (by kernel_rfl) (by kernel_rfl) (by kernel_rfl) (by kernel_rfl) (fun _ _ _ h=>h) (Or.inl ⟨by rfl,(by intro w hSw;(try dsimp only at hSw);go_simp)⟩) (by assumption) ?_;simp only [Act.put,List.setIfInBounds_toArray,List.set_cons_zero,List.set_cons_succ];refine anyM_last (o:={ dst:=none,op:=Op.store 75 (Operand.tmp 31) (Operand.tmp 29),type:=0,pos:= "names.go:126",after:=#[{ on:=18,ground:=Ground.data },{ on:=16,ground:=Ground.data },{ on:=16,ground:=Ground.chain },{ on:=0,ground:=Ground.phase },{ on:=1,ground:=Ground.phase },{ on:=2,ground:=Ground.phase },{ on:=3,ground:=Ground.phase },{ on:=4,ground:=Ground.phase },{ on:=5,ground:=Ground.phase },{ on:=6,ground:=Ground.phase },{ on:=7,ground:=Ground.phase },{ on:=8,ground:=Ground.phase },{ on:=9,ground:=Ground.phase },{ on:=10,ground:=Ground.phase },{ on:=11,ground:=Ground.phase },{ on:=12,ground:=Ground.phase },{ on:=13,ground:=Ground.phase },{ on:=14,ground:=Ground.phase },{ on:=15,ground:=Ground.phase },{ on:=16,ground:=Ground.phase }],guard:=none }) rfl (by kernel_rfl) (fun K hK => ?_);go_simp
 refine hK.out _ _ (trivial) (fun _ => ?_);clear hK K;refine wpAnyH_done (by kernel_rfl) ?_ _;have HF:Hid (TabAns f M w tb (popE T) (popT T) (.returned (.int .i64 0)) (w3.setCell ⟨tb,2,none⟩ (.slice (some ⟨g,0,none⟩) n ucap))):=by
  obtain ⟨hn,hTn⟩:=HN.out;obtain ⟨q1,q2,q3⟩:=HD3.out;have hg:=HG3.out;have hgs:=hg.size;have hT:=HTv.out;have hub:(Value.slice (some ⟨g,0,none⟩) rs.length ucap).ownBlock=some g:=rfl;have hMg:M g:=(hT.ub hub).1;have hrl:(rs.take n).length=n:=by rw [List.length_take];omega
  have hRw:w3.ownsRow 0 74 2 (.slice (some ⟨g,0,none⟩) (rs.take n).length ucap) (rs.take n).length (frRow (rs.take n)):=by
   rw [hrl];refine ⟨by rw [frRow_len,hrl],Or.inr ⟨g,ucap,cur',rfl,Nat.zero_le _,q1,by have:=HCP.out.1;omega,HCP.out.2,q2,?_⟩⟩;rw [q3,← frRow_take,← HTK.out,List.take_take,Nat.min_eq_left (by omega)]
  have hX:=hT.reRow (M':=M) (w3:=w3) (ua':=some ⟨g,0,none⟩) (ucap':=ucap) (rs':=rs.take n) (T':=T.take (n+1)) (fun g hg=>hg) (fun g' hg'=>⟨(hT.lo g' hg').1,by have:=(hT.lo g' hg').2;omega⟩) (NewM.refl _ _) hgs (fun g' hl hne=>hg.block g' hl (fun e=>hne (by rw [hub];exact e.symm))) hRw (fun p hp=>by cases hp;exact hMg) (by rw [List.length_take,hrl];omega) (fun k hk=>by
      rw [hrl] at hk;exact Or.inl ⟨by omega,getD_take _ _ _ _ hk,getD_take _ _ _ _ (by omega)⟩) (getD_take _ _ _ _ (by omega))
  rw [hrl] at hX;have hTab:TabIs f M (w3.setCell ⟨tb,2,none⟩ (.slice (some ⟨g,0,none⟩) n ucap)) tb (popT T):=by
   unfold popT;rw [if_neg (by omega),show T.length - 1=n+1 by omega];exact ⟨m0,some ⟨g,0,none⟩,ucap,_,hX⟩
  have hKp:KpM M v (w3.setCell ⟨tb,2,none⟩ (.slice (some ⟨g,0,none⟩) n ucap)):=by
   refine ⟨hg.os,hg.tape,hg.output,?_,fun g' hl hM => ?_⟩
   · simp [World.setCell];omega
   · rw [setT_other (fun e=>hM (by rw [← e];exact hT.mt)),hg.block g' hl (fun e=>hM (by cases e;exact hMg))]
  exact TabAns.from (w2:=v) ⟨by unfold popE;rw [if_neg (by omega)],_,hTab,hKp,NewM.refl _ _⟩ HKv.out
 clear HTv HKv HBT HBX HSZ HCP HNB HN HTK HD3 HG3 BT3;dsimp only [NoPanic];go_wp2
 go_ret
 exact HF.out
end
end
section
open Go.RowKit
abbrev xA:ByteArray:=⟨#[65]⟩
theorem nameF_A:nameF xA=true:=by kernel_rfl
theorem memT_A:memT xA [xA]=true:=by kernel_rfl
theorem dedF_A:dedF [] [xA]=[xA]:=by kernel_rfl
theorem setE_new {T:List FrB} {x:ByteArray} {k:Int} (h:curL T x=[]) (hc:cntF T<512):setE T x k=0:=by
 unfold setE;rw [h,if_neg (by simp [hasB]),if_neg (by omega)]
section
variable {t1 t2:Tr} (h1:(measF 16 t1).isSome=true) (h2:(measF 16 t2).isSome=true)
theorem cpB_right {t:Tr} (h:(measF 16 t).isSome=true):cpB (varB t)=varB t:=by
 unfold cpB varB cpT;rw [if_pos h]
theorem live_1 (h1:(measF 16 t1).isSome=true):setVarT [fb0] xA t1=[⟨[],[(xA,varB t1)]⟩]:=by
 unfold setVarT;rw [if_pos ⟨nameF_A,h1⟩];unfold setT;rw [setE_new (T:=[fb0]) rfl (by decide),if_pos rfl,cpB_right h1];rfl
theorem live_2:pushT [⟨[],[(xA,varB t1)]⟩] [xA]=[⟨[],[(xA,varB t1)]⟩,⟨[xA],[]⟩]:=by
 have:pushE [⟨[],[(xA,varB t1)]⟩] [xA]=0:=by
  unfold pushE;rw [if_pos (by simp [nameF_A]),if_neg (by simp),if_neg (by simp)]
 unfold pushT;rw [if_pos this,dedF_A];rfl
theorem pos_2 (L L':List EntB):posF [⟨[],L⟩,⟨[xA],L'⟩] xA=1:=by
 unfold posF;rw [show idxF ((([⟨[],L⟩,⟨[xA],L'⟩]:List FrB).drop 1).map FrB.ls) xA (([⟨[],L⟩,⟨[xA],L'⟩]:List FrB).length - 1)=some 0 from idxF_some (k:=0) memT_A 1 (by omega) (fun j h1 h2=>by omega)]
theorem live_3 (h2:(measF 16 t2).isSome=true):setVarT [⟨[],[(xA,varB t1)]⟩,⟨[xA],[]⟩] xA t2=[⟨[],[(xA,varB t1)]⟩,⟨[xA],[(xA,varB t2)]⟩]:=by
 unfold setVarT;rw [if_pos ⟨nameF_A,h2⟩];unfold setT;have hc:curL [⟨[],[(xA,varB t1)]⟩,⟨[xA],[]⟩] xA=[]:=by unfold curL;rw [pos_2];rfl
 rw [setE_new hc (by show 1+(0+0)<512;omega),if_pos rfl,cpB_right h2,hc,pos_2];rfl
theorem live_4:curL [⟨[],[(xA,varB t1)]⟩,⟨[xA],[(xA,varB t2)]⟩] xA=[(xA,varB t2)]:=by unfold curL;rw [pos_2];rfl
theorem live_5:popT [⟨[],[(xA,varB t1)]⟩,⟨[xA],[(xA,varB t2)]⟩]=[⟨[],[(xA,varB t1)]⟩]:=rfl
theorem live_6:curL [⟨[],[(xA,varB t1)]⟩] xA=[(xA,varB t1)]:=rfl
theorem live_7 (t:Tr):hasB xA [(xA,varB t)]=true∧getB xA [(xA,varB t)]=varB t:=by
 unfold hasB getB;rw [if_pos rfl,if_pos rfl];exact ⟨rfl,rfl⟩
end
theorem new_any (w:World):Calls Tryz.prog 11 #[] w fun e w'=>e=.returned (.pointer (some ⟨w.heap.size,0,none⟩))∧w'=w.alloc (.cells #[.slice none 0 0,.map none,.slice none 0 0] 77):=by
 go_enter Tryz.func11,Tryz.ntmps11;go_wp2
 go_ret
 exact ⟨rfl,rfl⟩
end
end Go.Proofs.YtimfnalpmmkndaaGreatDoor
