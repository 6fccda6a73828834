/- (*names.Table).SetFn. -/
import Derived.Test.YtimfnalpmmkndaaGreatDoorNF
import Derived.Test.YtimfnalpmmkndaaGreatDoorDB
import Derived.Test.YtimfnalpmmkndaaGreatDoorNG
set_option maxRecDepth 100000
set_option maxHeartbeats 6400000
set_option linter.unusedVariables false
set_option linter.unusedSimpArgs false
namespace Go.Proofs.YtimfnalpmmkndaaGreatDoor
variable {x:ByteArray} {T:List FrB} {i:Nat}
section
open Go.RowKit
attribute [local go_sem] Oper.semAt_some
def fnB (s1 s2 s3 s4:ByteArray) (l1 l2:List ByteArray) (l3:List Int) (l4:List ByteArray) (br:Bool):Bd:=⟨3,tr0,s1,s2,s3,s4,l1,l2,l3,l4,br,0⟩
section
variable {f:Nat} {M:Nat→Prop} {w w2:World} {tb:Nat} {T:List FrB}
def setFnE (T:List FrB) (x:ByteArray):Int:=if nameF x=true then setE T x 3 else 27
noncomputable def setFnT (T:List FrB) (x:ByteArray) (G:Bd):List FrB:=if nameF x=true then setT T x G else T
theorem setFn_any {s1 s2 s3 s4:ByteArray} {b1 b2 b3 b4:Option Addr} {z1 z2 z3 z4:Nat} {l1 l2 l4:List ByteArray} {l3:List Int} {br:Bool} (hsz:s1.size≤9223372036854775807) (h:TabIs f M w tb T) (hc:cntF T≤1000000) (hL:Lists4 (DM M w) w b1 b2 b3 b4 z1 z2 z3 z4 l1 l2 l3 l4) (hs:shortB (fnB s1 s2 s3 s4 l1 l2 l3 l4 br)) :
    Calls Tryz.prog 19 #[.pointer (some ⟨tb,0,none⟩),.agg #[.string s1,.string s2,.string s3,.string s4,.slice b1 l1.length z1,.slice b2 l2.length z2,.slice b3 l3.length z3,.slice b4 l4.length z4,.bool br]] w (TabAns f M w tb (setFnE T s1) (setFnT T s1 (fnB s1 s2 s3 s4 l1 l2 l3 l4 br))):=by
 have e1:=below_alloc w (.cells #[.string s1,.string s2,.string s3,.string s4,.slice b1 l1.length z1,.slice b2 l2.length z2,.slice b3 l3.length z3,.slice b4 l4.length z4,.bool br] 36);have B1:=boxA_new w #[.string s1,.string s2,.string s3,.string s4,.slice b1 l1.length z1,.slice b2 l2.length z2,.slice b3 l3.length z3,.slice b4 l4.length z4,.bool br] 36;have HT:Hid (TabIs f M w tb T):=h;have HL:Hid (Lists4 (DM M w) w b1 b2 b3 b4 z1 z2 z3 z4 l1 l2 l3 l4):=hL;have HSH:Hid (shortB (fnB s1 s2 s3 s4 l1 l2 l3 l4 br)):=hs;clear h hL hs;go_enter Tryz.func19,Tryz.ntmps19
 go_wp2_with fail
 refine (isName_any s1 _ hsz).mono ?_;rintro e w2 ⟨rfl,k2⟩;have K2:Below w.heap.size w w2:=e1.trans (k2.mono (by simp));have B2:=B1.below k2 (by simp)
 cases hn:nameF s1 with
 | false=>
  have HF:Hid (TabAns f M w tb (setFnE T s1) (setFnT T s1 (fnB s1 s2 s3 s4 l1 l2 l3 l4 br)) (.returned (.int .i64 27)) w2):=by
   unfold Hid setFnE setFnT;rw [hn,if_neg (by simp),if_neg (by simp)];exact TabAns.no HT.out K2
  clear hn;go_wp2
  go_ret
  exact HF.out
 | true=>
  obtain ⟨x0,x1,x2,x3,x4,x5,x6,x7,x8⟩:=cells9 B2;have HX:Hid (BndIs f (DM M w2) w2 ⟨3,none,0,0,none,0,0,s1,s2,s3,s4,b1,l1.length,z1,b2,l2.length,z2,b3,l3.length,z3,b4,l4.length,z4,br,0⟩ (fnB s1 s2 s3 s4 l1 l2 l3 l4 br)):=
   ⟨⟨none,0,none,0,b1,z1,b2,z2,b3,z3,b4,z4,rfl,arV_zero f _ _,HL.out.imp (fun g hg=>⟨by have:=hg.1;have:=K2.size;omega,hg.2⟩) (fun g hg=>K2.block g hg.1)⟩,HSH.out⟩
  have HT3:Hid (TabIs f M w2 tb T):=HT.out.below K2;have HE:Hid (setFnE T s1=setE T s1 3∧setFnT T s1 (fnB s1 s2 s3 s4 l1 l2 l3 l4 br)=setT T s1 (fnB s1 s2 s3 s4 l1 l2 l3 l4 br)):=by
   unfold Hid setFnE setFnT;rw [hn,if_pos rfl,if_pos rfl];exact ⟨rfl,rfl⟩
  clear hn
  go_wp2_with fail
  refine (set_any s1 HT3.out hc HX.out).mono ?_;rintro e w4 hR;have HR:Hid (TabAns f M w tb (setFnE T s1) (setFnT T s1 (fnB s1 s2 s3 s4 l1 l2 l3 l4 br)) e w4):=by
   unfold Hid;rw [HE.out.1,HE.out.2];exact TabAns.from hR K2
  obtain ⟨rfl,_⟩:=hR;clear HE HX HT3;go_wp2
  go_ret
  exact HR.out
end
end
section
open Go.RowKit
structure TOK (T:List FrB):Prop where
 pos:0<T.length
 few:T.length≤65
 cnt:cntF T≤512
 nd:∀ F∈T,(F.en.map (·.1)).Nodup
 sh:∀ F∈T,F.ls.length≤64
theorem tok_new:TOK [fb0]:=⟨by simp,by simp,by show 0+0≤512;omega,fun F hF=>by rw [List.mem_singleton.1 hF];simp [fb0],fun F hF=>by rw [List.mem_singleton.1 hF];simp [fb0]⟩
theorem dedF_le:∀ (l acc:List ByteArray),(dedF acc l).length≤acc.length+l.length
 | [],acc=>by simp [dedF]
 | x :: l,acc=>by
  rw [dedF];by_cases e:memT x acc=true
  · rw [if_pos e]
    have:=dedF_le l acc;simp only [List.length_cons];omega
  · rw [if_neg e]
    have:=dedF_le l (acc++[x]);simp only [List.length_append,List.length_cons,List.length_nil] at this ⊢;omega
theorem cntF_set:∀ (T:List FrB) (i:Nat) (F:FrB),i<T.length→cntF (T.set i F)+(T.getD i fb0).en.length=cntF T+F.en.length
 | [],_,_,h=>by simp at h
 | b :: l,0,F,_=>by show F.en.length+cntF l+b.en.length=b.en.length+cntF l+F.en.length;omega
 | b :: l,i+1,F,h=>by
  have:=cntF_set l i F (by simpa using h);show b.en.length+cntF (l.set i F)+(l.getD i fb0).en.length=b.en.length+cntF l+F.en.length;omega
theorem cntF_app:∀ (a b:List FrB),cntF (a++b)=cntF a+cntF b
 | [],b=>by simp [cntF]
 | x :: a,b=>by rw [List.cons_append,cntF,cntF,cntF_app a b];omega
theorem cntF_take:∀ (T:List FrB) (k:Nat),cntF (T.take k)≤cntF T
 | [],k=>by simp [cntF]
 | _ :: _,0=>by simp [cntF]
 | b :: l,k+1=>by
  have:=cntF_take l k;show b.en.length+cntF (l.take k)≤b.en.length+cntF l;omega
theorem hasB_iff {x:ByteArray}:∀ {E:List EntB},hasB x E=true↔x∈E.map (·.1)
 | []=>by simp [hasB]
 | p :: l=>by
  rw [hasB,List.map_cons,List.mem_cons];by_cases e:p.1=x
  · rw [if_pos e];simp [e]
  · rw [if_neg e,hasB_iff]
    constructor
    · exact Or.inr
    · rintro (h | h)
      · exact absurd h.symm e
      · exact h
theorem hasB_no {x:ByteArray} {E:List EntB} (h:x ∉ E.map (·.1)):hasB x E=false:=by
 cases e:hasB x E with
 | false=>rfl
 | true=>exact absurd (hasB_iff.1 e) h
theorem putB_keys (x:ByteArray) (b:Bd):∀ E:List EntB,(putB x b E).map (·.1)=if hasB x E=true then E.map (·.1) else E.map (·.1)++[x]
 | []=>by simp [putB,hasB]
 | p :: l=>by
  rw [putB,hasB];by_cases e:p.1=x
  · rw [if_pos e,if_pos e,if_pos rfl];simp [e]
  · rw [if_neg e,if_neg e,List.map_cons,putB_keys x b l]
    by_cases h:hasB x l=true
    · rw [if_pos h,if_pos h];rfl
    · rw [if_neg h,if_neg h];rfl
theorem putB_nd {x:ByteArray} {b:Bd} {E:List EntB} (h:(E.map (·.1)).Nodup):((putB x b E).map (·.1)).Nodup:=by
 rw [putB_keys];by_cases e:hasB x E=true
 · rw [if_pos e];exact h
 · rw [if_neg e]
   rw [List.nodup_append];refine ⟨h,by simp,fun a ha b hb => ?_⟩;rw [List.mem_singleton.1 hb];rintro rfl;exact e (hasB_iff.2 ha)
theorem delB_sub (x:ByteArray):∀ E:List EntB,List.Sublist ((delB x E).map (·.1)) (E.map (·.1))
 | []=>List.Sublist.refl _
 | p :: l=>by
  rw [delB];by_cases e:p.1=x
  · rw [if_pos e];exact List.sublist_cons_self _ _
  · rw [if_neg e];exact (delB_sub x l).cons_cons _
theorem delB_has {x:ByteArray}:∀ {E:List EntB},(E.map (·.1)).Nodup→hasB x (delB x E)=false
 | [],_=>rfl
 | p :: l,h=>by
  rw [List.map_cons,List.nodup_cons] at h;rw [delB];by_cases e:p.1=x
  · rw [if_pos e];exact hasB_no (by rw [← e];exact h.1)
  · rw [if_neg e,hasB,if_neg e];exact delB_has h.2
theorem getD_memF {T:List FrB} {i:Nat} (h:i<T.length):T.getD i fb0∈T:=by
 rw [List.getD_eq_getElem?_getD,List.getElem?_eq_getElem h];exact List.getElem_mem h
theorem TOK.set {T:List FrB} (h:TOK T) {i:Nat} (hi:i<T.length) {F:FrB} (hls:F.ls=(T.getD i fb0).ls) (hF:(F.en.map (·.1)).Nodup) (hc:cntF T+F.en.length≤512+(T.getD i fb0).en.length):TOK (T.set i F):=by
 refine ⟨by simpa using h.pos,by simpa using h.few,by have:=cntF_set T i F hi;omega,fun G hG => ?_,fun G hG => ?_⟩
 · rcases List.mem_or_eq_of_mem_set hG with h1 | rfl
   · exact h.nd G h1
   · exact hF
 · rcases List.mem_or_eq_of_mem_set hG with h1 | rfl
   · exact h.sh G h1
   · rw [hls];exact h.sh _ (getD_memF hi)
theorem TOK.cur {T:List FrB} (h:TOK T) (x:ByteArray):posF T x<T.length∧((curL T x).map (·.1)).Nodup:=⟨posF_lt x h.pos,h.nd _ (getD_memF (posF_lt x h.pos))⟩
theorem TOK.put {T:List FrB} (h:TOK T) (x:ByteArray) (G:Bd):TOK (setT T x G):=by
 unfold setT;by_cases e:setE T x G.k=0
 · rw [if_pos e]
   obtain ⟨h1,h2⟩:=h.cur x;refine h.set h1 rfl (putB_nd h2) ?_;show cntF T+(putB x (cpB G) (curL T x)).length≤512+(curL T x).length;have hk:=congrArg List.length (putB_keys x (cpB G) (curL T x));rw [List.length_map] at hk;have hcn:=h.cnt;unfold setE at e;by_cases hh:hasB x (curL T x)=true
   · rw [if_pos hh] at hk
     rw [List.length_map] at hk;omega
   · rw [if_neg hh] at hk e
     rw [List.length_append,List.length_map] at hk;by_cases h5:512≤cntF T
     · rw [if_pos h5] at e;omega
     · simp at hk
       omega
 · rw [if_neg e];exact h
theorem TOK.setVar {T:List FrB} (h:TOK T) (x:ByteArray) (t:Tr):TOK (setVarT T x t):=by
 unfold setVarT
 split
 · exact h.put x _
 · exact h
theorem TOK.setLab {T:List FrB} (h:TOK T) (x:ByteArray) (n:Int):TOK (setLabT T x n):=by
 unfold setLabT
 split
 · exact h.put x _
 · exact h
theorem TOK.setFn {T:List FrB} (h:TOK T) (x:ByteArray) (G:Bd):TOK (setFnT T x G):=by
 unfold setFnT
 split
 · exact h.put x _
 · exact h
def delT (T:List FrB) (x:ByteArray):List FrB:=T.set (posF T x) ⟨(T.getD (posF T x) fb0).ls,delB x (curL T x)⟩
theorem TOK.del {T:List FrB} (h:TOK T) (x:ByteArray):TOK (delT T x):=by
 obtain ⟨h1,h2⟩:=h.cur x;refine h.set h1 rfl (h2.sublist (delB_sub x _)) ?_;have:=(delB_sub x (curL T x)).length_le;rw [List.length_map,List.length_map] at this;show cntF T+(delB x (curL T x)).length≤512+(curL T x).length;have:=h.cnt;omega
theorem TOK.push {T:List FrB} (h:TOK T) (ss:List ByteArray):TOK (pushT T ss):=by
 unfold pushT;by_cases e:pushE T ss=0
 · rw [if_pos e]
   unfold pushE at e;have h5:¬ 65≤T.length:=by
    intro h5;by_cases h1:ss.all nameF=true
    · rw [if_pos h1] at e
      by_cases h2:64<ss.length
      · rw [if_pos h2] at e;omega
      · rw [if_neg h2,if_pos h5] at e;omega
    · rw [if_neg h1] at e;omega
   have h6:ss.length≤64:=by
    by_cases h1:ss.all nameF=true
    · rw [if_pos h1] at e
      by_cases h2:64<ss.length
      · rw [if_pos h2] at e;omega
      · omega
    · rw [if_neg h1] at e;omega
   refine ⟨by simp,by simp;omega,?_,fun F hF => ?_,fun F hF => ?_⟩
   · rw [cntF_app]
     show cntF T+(0+0)≤512;have:=h.cnt;omega
   · rcases List.mem_append.1 hF with h1 | h1
     · exact h.nd F h1
     · rw [List.mem_singleton.1 h1];simp
   · rcases List.mem_append.1 hF with h1 | h1
     · exact h.sh F h1
     · rw [List.mem_singleton.1 h1]
       have:=dedF_le ss [];simp only [List.length_nil] at this;show (dedF [] ss).length≤64;omega
 · rw [if_neg e];exact h
theorem TOK.pop {T:List FrB} (h:TOK T):TOK (popT T):=by
 unfold popT;by_cases e:T.length≤1
 · rw [if_pos e];exact h
 · rw [if_neg e]
   have:=h.few;refine ⟨by simp;omega,by simp;omega,Nat.le_trans (cntF_take T _) h.cnt,fun F hF=>h.nd F (List.mem_of_mem_take hF),fun F hF=>h.sh F (List.mem_of_mem_take hF)⟩
theorem posF_set {T:List FrB} {i:Nat} {F:FrB} (hF:F.ls=(T.getD i fb0).ls) (x:ByteArray):posF (T.set i F) x=posF T x:=by
 unfold posF;have e:((T.set i F).drop 1).map FrB.ls=(T.drop 1).map FrB.ls:=by
  refine List.ext_getElem? fun j => ?_;simp only [List.getElem?_map,List.getElem?_drop,List.getElem?_set];by_cases h:i=1+j
  · subst h
    by_cases h2:1+j<T.length
    · rw [if_pos rfl,if_pos h2,List.getElem?_eq_getElem h2]
      simp only [Option.map_some];rw [hF,List.getD_eq_getElem?_getD,List.getElem?_eq_getElem h2];rfl
    · rw [if_pos rfl,if_neg h2,List.getElem?_eq_none (by omega)]
  · rw [if_neg h]
 rw [e,List.length_set]
theorem curL_del {T:List FrB} (h:TOK T) (x:ByteArray):curL (delT T x) x=delB x (curL T x):=by
 have e:=posF_set (T:=T) (i:=posF T x) (F:=⟨(T.getD (posF T x) fb0).ls,delB x (curL T x)⟩) rfl x;unfold curL at e ⊢;unfold delT curL;rw [e,getD_setG,if_pos ⟨rfl,(h.cur x).1⟩]
theorem has_del {T:List FrB} (h:TOK T) (x:ByteArray):hasB x (curL (delT T x) x)=false:=by
 rw [curL_del h];exact delB_has (h.cur x).2
theorem getB_no {x:ByteArray}:∀ {E:List EntB},hasB x E=false→getB x E=bd0
 | [],_=>rfl
 | p :: l,h=>by
  rw [hasB] at h;by_cases e:p.1=x
  · rw [if_pos e] at h;cases h
  · rw [if_neg e] at h;rw [getB,if_neg e];exact getB_no h
attribute [local go_sem] Oper.semAt_some
def eraT:List FrB→List ByteArray→List FrB
 | T,[]=>T
 | T,x :: l=>eraT (delT T x) l
def eraN:List FrB→List ByteArray→Nat
 | _,[]=>0
 | T,x :: l=>(if hasB x (curL T x)=true then 1 else 0)+eraN (delT T x) l
theorem TOK.era:∀ {ss:List ByteArray} {T:List FrB},TOK T→TOK (eraT T ss)
 | [],_,h=>h
 | x :: l,_,h=>TOK.era (ss:=l) (h.del x)
theorem era_drop {ss:List ByteArray} (hi:i<ss.length):eraT T (ss.drop i)=eraT (delT T (ss.getD i noT)) (ss.drop (i+1))∧eraN T (ss.drop i)=(if hasB (ss.getD i noT) (curL T (ss.getD i noT))=true then 1 else 0)+eraN (delT T (ss.getD i noT)) (ss.drop (i+1)):=by
 rw [List.drop_eq_getElem_cons hi,List.getD_eq_getElem?_getD,List.getElem?_eq_getElem hi];exact ⟨rfl,rfl⟩
section
variable {f:Nat} {M:Nat→Prop} {w:World} {tb:Nat} {T:List FrB}
theorem tErase_any {a:Option Addr} {c:Nat} {ss:List ByteArray} (h:TabIs f M w tb T) (hR:RdT (DM M w) w (.slice a ss.length c) ss) :
    Calls Tryz.prog 18 #[.pointer (some ⟨tb,0,none⟩),.slice a ss.length c] w fun e w'=>e=.returned (.int .i64 (eraN T ss))∧TabIs f M w' tb (eraT T ss)∧KpM M w w':=by
 have HT:Hid (TabIs f M w tb T):=h;have HRT:Hid (RdT (DM M w) w (.slice a ss.length c) ss):=hR;have hcap:ss.length≤9223372036854775807:=by
  obtain ⟨a',c',e,h1,h2,_⟩:=hR;omega
 obtain ⟨N,hN⟩:∃ N,N=eraN T ss:=⟨_,rfl⟩;obtain ⟨T2,hT2⟩:∃ T2,T2=eraT T ss:=⟨_,rfl⟩;rw [← hN,← hT2];have HN0:Hid (0+eraN T (ss.drop 0)=N):=by rw [hN];unfold Hid;simp
 have HT0:Hid (eraT T (ss.drop 0)=T2):=by rw [hT2];rfl
 clear h hR hN hT2;go_enter Tryz.func18,Tryz.ntmps18;go_wp2
 go_loopw [5,12] (fun nv iv wr=>∃ (i n:Nat) (T':List FrB),nv=.int .i64 n∧iv=.int .i64 i∧i≤ss.length∧n≤i∧Hid (TabIs f M wr tb T')∧Hid (n+eraN T' (ss.drop i)=N)∧Hid (eraT T' (ss.drop i)=T2)∧Hid (KpM M w wr)) (fun nv iv _=>ss.length - (intOf iv).toNat)
 case atStart=>exact ⟨0,0,T,rfl,rfl,Nat.zero_le _,Nat.le_refl _,HT,HN0,HT0,KpM.refl _ _⟩
 case round=>
  obtain ⟨i,n,T',rfl,rfl,hi,hn,HT',HN',HE',HK'⟩:=hrel;by_cases hlt:i<ss.length
  · have i1:(i:Int)<(ss.length:Int):=by omega
    obtain ⟨g,o,rfl,hg,hc⟩:∃ g o,a=some ⟨g,o,none⟩∧DM M w g∧∀ j,j<ss.length→w.cell? ⟨g,o+j,none⟩=some (.string (ss.getD j noT)):=by
     obtain ⟨a',c',e,_,_,_,h4⟩:=HRT.out;obtain ⟨rfl,_,_⟩:=Value.slice.inj e;rcases h4 with h4 | h4
     · subst h4;simp at hlt
     · exact h4
    have q:wr.cell? ⟨g,o+i,none⟩=some (.string (ss.getD i noT)):=by
     rw [← hc i hlt];exact World.cell?_of_block (HK'.out.block g hg.1 hg.2)
    obtain ⟨hd1,hd2⟩:=era_drop (T:=T') hlt;have HD1:Hid (eraT (delT T' (ss.getD i noT)) (ss.drop (i+1))=T2):=by unfold Hid;rw [← hd1];exact HE'.out
    have HD2:Hid (n+(if hasB (ss.getD i noT) (curL T' (ss.getD i noT))=true then 1 else 0)+eraN (delT T' (ss.getD i noT)) (ss.drop (i+1))=N):=by unfold Hid;rw [← HN'.out,hd2];omega
    generalize ss.getD i noT=x at *;obtain ⟨m0,ua,ucap,rs,hT⟩:=HT'.out;have hp:posF T' x<T'.length:=posF_lt x (by have:=hT.len;omega);clear hc hd1 hd2 HN' HE'
    go_wp2_with fail
    refine (place_any x hT.tabL rfl).mono ?_;rintro e w1 ⟨rfl,k1⟩;have hT1:=hT.below k1;rw [hT1.place];obtain ⟨b,o',hs,_⟩:=hT1.slot hp;have HT1:Hid (TabR f M w1 tb m0 ua ucap rs T'):=hT1;have HSL:Hid (slotA tb ua (posF T' x)=⟨b,o',none⟩):=hs;rw [hs];have HK1:Hid (KpM M w w1):=HK'.out.trans (KpM.of_below k1) (NewM.refl _ _);clear hT hT1 hs HT'
    go_wp2_with fail
    refine (tabErase HT1.out hp HSL.out x).mono ?_;rintro e w2 ⟨rfl,h1,h2⟩;have HT2:Hid (TabIs f M w2 tb (delT T' x)):=h1;have HK2:Hid (KpM M w w2):=HK1.out.trans h2 (NewM.refl _ _);clear h1 h2 k1 HK1 HT1 HSL q;change Hid (n+(if hasB x (T'.getD (posF T' x) fb0).en=true then 1 else 0)+eraN (delT T' x) (ss.drop (i+1))=N) at HD2
    cases hh:hasB x (T'.getD (posF T' x) fb0).en with
    | true=>
     have HD3:Hid ((n+1)+eraN (delT T' x) (ss.drop (i+1))=N):=by have:=HD2.out;rw [hh,if_pos rfl] at this;exact this
     clear hh HD2;go_wp2
     go_roundw
     case rel=>exact ⟨i+1,n+1,delT T' x,by go_num,by go_num,by omega,by omega,HT2,HD3,HD1,HK2⟩
     case measure=>simp [intOf];omega
    | false=>
     have HD3:Hid (n+eraN (delT T' x) (ss.drop (i+1))=N):=by have:=HD2.out;rw [hh,if_neg (by simp)] at this;exact this
     clear hh HD2;go_wp2
     go_roundw
     case rel=>exact ⟨i+1,n,delT T' x,rfl,by go_num,by omega,by omega,HT2,HD3,HD1,HK2⟩
     case measure=>simp [intOf];omega
  · have i1:¬ (i:Int)<(ss.length:Int):=by omega
    have HF:Hid ((n:Int)=(N:Int)∧T'=T2):=by
     have h1:=HN'.out;have h2:=HE'.out;rw [List.drop_of_length_le (by omega)] at h1 h2;exact ⟨by rw [← h1];rfl,h2⟩
    go_wp2
    go_ret
    exact ⟨by rw [HF.out.1];rfl,by rw [← HF.out.2];exact HT'.out,HK'.out⟩
end
end
end Go.Proofs.YtimfnalpmmkndaaGreatDoor
