/- lex.next from any place: what the token there is. -/
import Derived.Test.YtimfnalpmmkndaaGreatDoorL2
import Derived.Test.YtimfnalpmmkndaaGreatDoorL1
import Derived.Test.YtimfnalpmmkndaaGreatDoorShelf
import Derived.Lib.MapLaws
import Derived.Lib.QuoteLoop
import Derived.Lib.TrimUEq
set_option linter.unusedVariables false
set_option linter.unusedSimpArgs false
namespace Go.Proofs.YtimfnalpmmkndaaGreatDoor
section
open Go.RowKit Go.Shelf
def prims:ByteArray:=⟨#[43,45,195,151,195,183,226,140,136,226,140,138,124,42,33,126,60,226,137,164,61,226,137,165,62,226,137,160,226,136,167,226,136,168,226,141,178,226,141,177,226,141,180,44,226,141,170,226,134,145,226,134,147,226,140,189,226,138,150,226,141,137,47,226,140,191,92,226,141,128,226,141,179,226,136,138,226,141,139,226,141,146,226,136,170,226,138,130,226,138,131,226,137,161,226,137,162,226,138,164,226,138,165,226,140,183,226,141,142,226,141,149,194,168,226,136,152,46,226,141,168]⟩
def sgns:ByteArray:=⟨#[40,41,91,93,59,123,125,226,134,144,226,134,146,226,139,132,58,226,136,135,226,141,186,226,141,181]⟩
def TellsErr (ne:ByteArray→Int):Prop:=∀ T b ns ds e,TextSpec T b ns ds e→ne T=e
theorem tellsErr_ex:∃ ne,TellsErr ne:=by
 have h:∀ T:ByteArray,∃ e:Int,∀ b ns ds f,TextSpec T b ns ds f→e=f:=fun T=>by
  by_cases hx:∃ e b ns ds,TextSpec T b ns ds e
  · obtain ⟨e,b,ns,ds,h⟩:=hx
    exact ⟨e,fun b' ns' ds' f h'=>((h.unique h').2.2.2).symm⟩
  · exact ⟨0,fun b ns ds f h=>absurd ⟨f,b,ns,ds,h⟩ hx⟩
 exact ⟨fun T=>Classical.choose (h T),fun T b ns ds e he=>Classical.choose_spec (h T) b ns ds e he⟩
def nextF (ne:ByteArray→Int) (cs:List Int) (i:Nat):Int×Nat×Int:=
 if cs.getD i 0=175∨dg (cs.getD i 0)=true then (1,runEnd inn cs (i+1),ne (cutText cs i (runEnd inn cs (i+1))))
 else if cs.getD i 0=39 then (match qscan cs cs.length (i+1) [] with | some p=>(2,p.2,0) | none=>(0,0,26))
 else if bn (cs.getD i 0)=true then (if runEnd inm cs i - i≤32 then (3,runEnd inm cs i,0) else (0,0,27))
 else if cs.getD i 0=9109 then (4,runEnd lt cs (i+1),0)
 else if cs.getD i 0∈decs prims prims.size 0 then (5,i+1,0)
 else if cs.getD i 0∈decs sgns sgns.size 0 then (6,i+1,0) else (0,0,26)
section
variable {w:World} {cs:List Int} {b off cap:Nat} {ne:ByteArray→Int}
end
end
section
open Go.RowKit Go.Shelf
attribute [local go_sem] Oper.semAt_some
structure TokG where
 kd:Int
 tx:ByteArray
 pl:Nat
 er:Int
 a1:Option Addr
 n1:Nat
 c1:Nat
 a2:Option Addr
 n2:Nat
 c2:Nat
def TokG.core (x:TokG):Int×ByteArray×Nat×Int:=(x.kd,x.tx,x.pl,x.er)
theorem qscan_end (cs:List Int):∀ (f i:Nat) (acc:List Int) (p:List Int×Nat),qscan cs f i acc=some p→i<p.2∧p.2≤cs.length
 | 0,i,acc,p,h=>by simp [qscan] at h
 | f+1,i,acc,p,h=>by
  rw [qscan] at h;by_cases h1:i<cs.length
  · rw [if_pos h1] at h
    by_cases h2:cs.getD i 0=39
    · rw [if_pos h2] at h
      by_cases h3:i+1=cs.length∨¬ cs.getD (i+1) 0=39
      · rw [if_pos h3] at h
        cases h
        exact ⟨by simp,by simp;omega⟩
      · rw [if_neg h3] at h
        have:=qscan_end cs f (i+2) _ p h;omega
    · rw [if_neg h2] at h
      have:=qscan_end cs f (i+1) _ p h;omega
  · rw [if_neg h1] at h;cases h
theorem runEnd_gt {p:Int→Bool} {cs:List Int} {i:Nat} (hi:i<cs.length) (hf:p (cs.getD i 0)=true):i<runEnd p cs i:=by
 unfold runEnd;rw [List.drop_eq_getElem_cons hi];have e:cs.getD i 0=cs[i]:=by simp [List.getD,hi]
 rw [e] at hf;rw [List.takeWhile_cons,if_pos hf,List.length_cons];omega
theorem nextF_end (ne:ByteArray→Int) (cs:List Int) (i:Nat) (hi:i<cs.length) (h0:(nextF ne cs i).2.2=0):i<(nextF ne cs i).2.1∧(nextF ne cs i).2.1≤cs.length:=by
 unfold nextF at h0 ⊢;by_cases h1:cs.getD i 0=175∨dg (cs.getD i 0)=true
 · rw [if_pos h1]
   have:=runEnd_le inn cs (i+1) (by omega);exact ⟨by simp;omega,by simp;omega⟩
 rw [if_neg h1] at h0 ⊢;by_cases h2:cs.getD i 0=39
 · rw [if_pos h2] at h0 ⊢
   cases hq:qscan cs cs.length (i+1) [] with
   | none=>rw [hq] at h0;simp at h0
   | some p=>
    have:=qscan_end cs _ _ _ _ hq;exact ⟨by simp;omega,by simp;omega⟩
 rw [if_neg h2] at h0 ⊢;by_cases h3:bn (cs.getD i 0)=true
 · rw [if_pos h3] at h0 ⊢
   by_cases h4:runEnd inm cs i - i≤32
   · rw [if_pos h4]
     have h5:=runEnd_le inm cs i (by omega);have h6:=runEnd_gt (p:=inm) hi (by unfold inm;rw [h3];rfl);exact ⟨h6,h5.2⟩
   · rw [if_neg h4] at h0;simp at h0
 rw [if_neg h3] at h0 ⊢;by_cases h4:cs.getD i 0=9109
 · rw [if_pos h4]
   have:=runEnd_le lt cs (i+1) (by omega);exact ⟨by simp;omega,by simp;omega⟩
 rw [if_neg h4] at h0 ⊢;by_cases h5:cs.getD i 0∈decs prims prims.size 0
 · rw [if_pos h5];exact ⟨by simp,by simp;omega⟩
 rw [if_neg h5] at h0 ⊢;by_cases h6:cs.getD i 0∈decs sgns sgns.size 0
 · rw [if_pos h6];exact ⟨by simp,by simp;omega⟩
 rw [if_neg h6] at h0;simp at h0
end
section
open Go.RowKit
def scanR (s:ByteArray):Nat→Nat→List Int→List Int×Int×Nat
 | 0,_,acc=>(acc,0,0)
 | f+1,pos,acc=>if pos<s.size then
     if (Utf8.decode s pos).1=65533∧(Utf8.decode s pos).2=1 then ([],26,acc.length) else scanR s f (pos+(Utf8.decode s pos).2) (acc++[((Utf8.decode s pos).1:Int)])
  else (acc,0,0)
theorem drop_ne {s:ByteArray} {pos:Nat} (hp:pos<s.size):s.data.toList.drop pos≠[]:=fun h=>by
 have:=congrArg List.length h;simp at this;have h2:s.data.size=s.size:=rfl;omega
theorem scanR_len (s:ByteArray):∀ (f pos:Nat) (acc:List Int),acc.length≤pos→pos≤s.size→(scanR s f pos acc).1.length≤s.size
 | 0,pos,acc,h,hp=>by simp only [scanR];omega
 | f+1,pos,acc,h,hps=>by
  rw [scanR];by_cases hp:pos<s.size
  · rw [if_pos hp]
    by_cases hb:(Utf8.decode s pos).1=65533∧(Utf8.decode s pos).2=1
    · rw [if_pos hb];simp
    · rw [if_neg hb]
      have hw:=Lib.decode_width_pos s pos hp;have he:=dec_end s pos hp;exact scanR_len s f _ _ (by simp;omega) (by omega)
  · rw [if_neg hp];simp only;omega
end
section
open Go.RowKit Go.Shelf
attribute [local go_sem] Oper.semAt_some
def lastEr (l:List (Int×ByteArray×Nat×Int)):Int×Nat:=match l.getLast? with | some x=>(x.2.2.2,x.2.2.1) | none=>(0,0)
theorem lastEr_app (l:List (Int×ByteArray×Nat×Int)) (x:Int×ByteArray×Nat×Int):lastEr (l++[x])=(x.2.2.2,x.2.2.1):=by
 unfold lastEr;rw [List.getLast?_append];simp
theorem lastEr_zero {l:List (Int×ByteArray×Nat×Int)} (h:∀ x∈l,x.2.2.2=0):(lastEr l).1=0:=by
 unfold lastEr
 cases hg:l.getLast? with
 | none=>rfl
 | some x=>exact h x (List.mem_of_getLast? hg)
theorem OwnR.rdR {base:Nat} {w:World} {a:Option Addr} {c:Nat} {cs:List Int} (h:OwnR base w (.slice a cs.length c) cs):RdR w.heap.size w (.slice a cs.length c) cs:=by
 have hrow:=h;obtain ⟨_,h | ⟨g,cap,cur,hv,hg,hh,h1,h2,_,_⟩⟩:=h
 · obtain ⟨rfl,h3,rfl⟩:=Value.slice.inj h.1
   exact ⟨none,0,rfl,by omega,by omega,Or.inl h3⟩
 · obtain ⟨rfl,_,rfl⟩:=Value.slice.inj hv
   refine ⟨_,c,rfl,h1,by unfold maxLen at h2;omega,Or.inr ⟨g,0,rfl,lt_of_block hh,fun j hj => ?_⟩⟩;have:=hrow.cellAt j (by omega);rw [Nat.zero_add,this];simp [List.getD,hj]
end
end Go.Proofs.YtimfnalpmmkndaaGreatDoor
