/- glyphref04.next from any place: what the token there is. -/
import Derived.Test.YtimfnalpmmkndaaGreatDoorRA
set_option maxRecDepth 100000
set_option maxHeartbeats 32000000
set_option linter.unusedVariables false
set_option linter.unusedSimpArgs false
namespace Go.Proofs.YtimfnalpmmkndaaGreatDoor
open Go.RowKit
def TokIsR (w:World) (cs:List Int) (i:Nat) (r:Int×Nat×Int) (e:Ending) (w':World):Prop:=
 (r.2.2=0∧∃ a1 n1 c1 a2 n2 c2,e=.returned (.tuple #[.agg #[.int .i64 r.1,.string (cutText cs i r.2.1),.int .i64 i,.slice a1 n1 c1,.slice a2 n2 c2],.int .i64 r.2.1,.int .i64 0])∧Below w.heap.size w w') ∨
 (¬ r.2.2=0∧e=.returned (.tuple #[.agg #[.int .i64 0,.string ⟨#[]⟩,.int .i64 0,.slice none 0 0,.slice none 0 0],.int .i64 0,.int .i64 r.2.2])∧Below w.heap.size w w')
section
variable {w:World} {B ty:Nat} {u0 u1 u2 u3 u4:Value}
theorem BoxA.setk0 (h:BoxA w B ty #[u0,u1,u2,u3,u4]) (u:Value):BoxA (w.setCell ⟨B,0,none⟩ u) B ty #[u,u1,u2,u3,u4]:=by
 unfold BoxA at h ⊢;simp [World.setCell,Array.getElem?_modify,h]
theorem BoxA.setk1 (h:BoxA w B ty #[u0,u1,u2,u3,u4]) (u:Value):BoxA (w.setCell ⟨B,1,none⟩ u) B ty #[u0,u,u2,u3,u4]:=by
 unfold BoxA at h ⊢;simp [World.setCell,Array.getElem?_modify,h]
end
theorem conv_cut {W:World} {cs:List Int} {b off cap i j:Nat} (hij:i<j) (hj:j≤cs.length) (hc:∀ m,m<cs.length→W.cell? ⟨b,off+m,none⟩=some (.int .i32 (cs.getD m 0))) :
    (convert 116 9 (.slice (some ⟨b,off+i,none⟩) (j - i) (cap - i))).run Tryz.prog W=.ok (.string (cutText cs i j)) W:=
 run_convert_runes (P:=Tryz.prog) W 116 9 21 ⟨b,off+i,none⟩ (j - i) (cap - i) (cs.drop i) (by rw [List.length_drop];omega) Tryz.underlying116 Tryz.underlying21 Tryz.underlying9 (fun m hm=>by
  have hm':m<cs.length - i:=by rw [← List.length_drop];exact hm
  have e:((⟨b,off+i,none⟩:Addr).add m)=⟨b,off+(i+m),none⟩:=by simp [Addr.add,Nat.add_assoc]
  rw [e,hc (i+m) (by omega)];simp [List.getD])
section
variable {w:World} {cs:List Int} {b off cap:Nat} {ne:ByteArray→Int}
theorem refNext_any (hne:TellsErr ne) (i:Nat) (hi:i<cs.length) (hl:cs.length≤1000000) (hk:cs.length≤cap) (hcap:cap≤9223372036854775807) (hc:∀ m,m<cs.length→w.cell? ⟨b,off+m,none⟩=some (.int .i32 (cs.getD m 0))) (hlt:b<w.heap.size) :
    Calls Tryz.prog 65 #[.slice (some ⟨b,off,none⟩) cs.length cap,.int .i64 i] w fun e w'=>TokIsR w cs i (nextF ne cs i) e w':=by
 have HNE:Hid (TellsErr ne):=hne;have HC:Hid (∀ m,m<cs.length→w.cell? ⟨b,off+m,none⟩=some (.int .i32 (cs.getD m 0))):=hc;clear hne hc;have k0:=below_alloc w (.cells #[.int .i64 0,.string ⟨#[]⟩,.int .i64 0,.slice none 0 0,.slice none 0 0] 71);have k1:=below_alloc (w.alloc (.cells #[.int .i64 0,.string ⟨#[]⟩,.int .i64 0,.slice none 0 0,.slice none 0 0] 71)) (.cells #[.int .i64 0,.string ⟨#[]⟩,.int .i64 i,.slice none 0 0,.slice none 0 0] 71);have Rb:=(boxA_new w #[.int .i64 0,.string ⟨#[]⟩,.int .i64 0,.slice none 0 0,.slice none 0 0] 71).below k1 (by simp);have Tb:=boxA_new (w.alloc (.cells #[.int .i64 0,.string ⟨#[]⟩,.int .i64 0,.slice none 0 0,.slice none 0 0] 71)) #[.int .i64 0,.string ⟨#[]⟩,.int .i64 i,.slice none 0 0,.slice none 0 0] 71;rw [World.size_alloc] at Tb;have g:Below w.heap.size w ((w.alloc (.cells #[.int .i64 0,.string ⟨#[]⟩,.int .i64 0,.slice none 0 0,.slice none 0 0] 71)).alloc (.cells #[.int .i64 0,.string ⟨#[]⟩,.int .i64 i,.slice none 0 0,.slice none 0 0] 71)):=k0.trans (k1.mono k0.size);have sv:((w.alloc (.cells #[.int .i64 0,.string ⟨#[]⟩,.int .i64 0,.slice none 0 0,.slice none 0 0] 71)).alloc (.cells #[.int .i64 0,.string ⟨#[]⟩,.int .i64 i,.slice none 0 0,.slice none 0 0] 71)).heap.size=w.heap.size+1+1:=by simp
 have hc0:=(k0.cell (p:=⟨b,off+i,none⟩) hlt).trans (HC.out i hi);have hc1:=(g.cell (p:=⟨b,off+i,none⟩) hlt).trans (HC.out i hi);clear k0 k1;obtain ⟨C,hC⟩:∃ C,cs.getD i 0=C:=⟨_,rfl⟩;have HCC:Hid (cs.getD i 0=C):=hC;rw [hC] at hc0 hc1;clear hC;have hci:¬ cap=i:=by omega
 have hcj:¬ i=cap:=by omega
 have hcz:¬ cap - i=0:=by omega
 go_enter Tryz.func65,Tryz.ntmps65
 go_upto_region 5 with fail
 generalize hA:(w.alloc (.cells #[.int .i64 0,.string ⟨#[]⟩,.int .i64 0,.slice none 0 0,.slice none 0 0] 71)).alloc (.cells #[.int .i64 0,.string ⟨#[]⟩,.int .i64 i,.slice none 0 0,.slice none 0 0] 71)=v at *;clear hA hc0
 go_cut [22] from 23 to 28 (fun q wx=>q=.bool (dg C || decide (C=175))∧wx=v)
 case first=>
  go_wp2_with fail
  refine (refIsDigit_any C _).mono ?_;rintro e w' ⟨rfl,hw⟩;obtain rfl:=hw.symm
  cases hd:dg C with
  | true=>
   have HD:Hid ((dg C || decide (C=175))=true):=by unfold Hid;rw [hd];rfl
   clear hd
   go_wp2_with fail
   go_meet
   exact ⟨by rw [HD.out],rfl⟩
  | false=>
   by_cases h175:C=175
   · have e1:(C==175)=true:=by rw [beq_iff_eq];exact h175
     have HD:Hid ((dg C || decide (C=175))=true):=by unfold Hid;rw [hd,decide_eq_true h175];rfl
     clear h175 hd
     go_wp2_with fail
     go_meet
     exact ⟨by rw [HD.out],rfl⟩
   · have e1:(C==175)=false:=by rw [beq_eq_false_iff_ne];exact h175
     have HD:Hid ((dg C || decide (C=175))=false):=by unfold Hid;rw [hd,decide_eq_false h175];rfl
     clear h175 hd
     go_wp2_with fail
     go_meet
     exact ⟨by rw [HD.out],rfl⟩
 case rest=>
  obtain ⟨rfl,rfl⟩:=hcut;by_cases hnum:(dg C || decide (C=175))=true
  · have HF:Hid (nextF ne cs i=(1,runEnd inn cs (i+1),ne (cutText cs i (runEnd inn cs (i+1))))):=by
     unfold Hid nextF;rw [HCC.out,if_pos (by simpa [or_comm] using hnum)]
    rw [hnum];clear hnum;go_wp2
    go_loopw [8] (fun ev wr=>∃ j:Nat,ev=.int .i64 j∧i+1≤j∧j≤cs.length∧Hid (∀ m,i+1≤m→m<j→inn (cs.getD m 0)=true)∧wr=wc) (fun ev _=>cs.length - (intOf ev).toNat)
    case atStart=>exact ⟨i+1,by go_num,by omega,by omega,(fun m h1 h2=>by omega),rfl⟩
    case round=>
     obtain ⟨j,rfl,hij',hj,HJ,rfl⟩:=hrel;by_cases hgo:j<cs.length∧inn (cs.getD j 0)=true
     · obtain ⟨hjl,hin⟩:=hgo
       have hcj':=(g.cell (p:=⟨b,off+j,none⟩) hlt).trans (HC.out j hjl);have HJ2:Hid (∀ m,i+1≤m→m<j+1→inn (cs.getD m 0)=true):=fun m h1 h2=>by
        by_cases hm:m=j
        · rw [hm];exact hin
        · exact HJ.out m h1 (by omega)
       clear hc1 HJ;generalize cs.getD j 0=D at *
       go_wp2_with fail
       refine (refIsDigit_any D _).mono ?_;rintro e w' ⟨rfl,hw⟩;obtain rfl:=hw.symm
       cases hd:dg D with
       | true=>
        clear hin;go_wp2
        go_roundw
        case rel=>exact ⟨j+1,by go_num,by omega,by omega,HJ2,(by first | trivial | rfl)⟩
        case measure=>simp [intOf];omega
       | false=>
        have h2:D=46∨D=114:=by unfold inn at hin;rw [hd] at hin;simpa using hin
        clear hin;rcases h2 with rfl | rfl
        · skip
          go_wp2
          go_roundw
          case rel=>exact ⟨j+1,by go_num,by omega,by omega,HJ2,(by first | trivial | rfl)⟩
          case measure=>simp [intOf];omega
        · skip
          go_wp2
          go_roundw
          case rel=>exact ⟨j+1,by go_num,by omega,by omega,HJ2,(by first | trivial | rfl)⟩
          case measure=>simp [intOf];omega
     have HE:Hid (runEnd inn cs (i+1)=j):=runEnd_is (by omega) hj HJ.out (by
      by_cases hjl:j<cs.length
      · exact Or.inr (by simpa [hjl] using hgo)
      · exact Or.inl (by omega))
     clear hc1 HJ;by_cases hjl:j<cs.length
     case' pos=>
      have hcj':=(g.cell (p:=⟨b,off+j,none⟩) hlt).trans (HC.out j hjl);have hin:inn (cs.getD j 0)=false:=by simpa [hjl] using hgo
      clear hgo;generalize cs.getD j 0=D at *;have hd:dg D=false:=by unfold inn at hin;simp at hin;exact hin.1.1
      have e46:(D==46)=false:=by rw [beq_eq_false_iff_ne];unfold inn at hin;simp at hin;exact hin.1.2
      have e114:(D==114)=false:=by rw [beq_eq_false_iff_ne];unfold inn at hin;simp at hin;exact hin.2
      clear hin
      go_wp2_with fail
      refine (refIsDigit_any D _).mono ?_;rintro e w' ⟨rfl,hw⟩;obtain rfl:=hw.symm;rw [hd]
     case' neg=>clear hgo
     all_goals
      have hij:i<j:=by omega
      have hjl:j≤cs.length:=hj;have hcv:=conv_cut (cap:=cap) (i:=i) (j:=j) hij hj (fun m hm=>(g.cell (p:=⟨b,off+m,none⟩) hlt).trans (HC.out m hm));obtain ⟨TX0,hTX0⟩:∃ TX0,cutText cs i j=TX0:=⟨_,rfl⟩;have HTX0:Hid (cutText cs i j=TX0):=hTX0;rw [hTX0] at hcv;have hTs:TX0.size≤9223372036854775807:=by
       rw [← hTX0];unfold cutText;have:=runesBytes_size_le ((cs.drop i).take (j - i));have h5:((cs.drop i).take (j - i)).length≤cs.length:=by simp;omega
       omega
      clear hTX0
      go_wp2_with fail
      refine (refParse_rat TX0 hTs _).mono ?_;intro e w4 hp;obtain ⟨bK,nk,dk,ek,HK,k4,z1,i1,z2,i2,rfl,r1,r2⟩:=hp.spec;clear hp hcv hTs;have HEr:Hid (ne TX0=ek):=HNE.out _ _ _ _ _ HK.out;have l32:=textSpec_len HK.out;clear HK;have s4:=k4.size;have K:=nvar_new (b:=bK) r1 r2;have kK:=below_alloc w4 (.cells #[.bool bK,.slice z1 nk.length i1,.slice z2 dk.length i2] 110);have sK:=kK.size;have kW:=k4.trans (kK.mono s4);replace Rb:=Rb.below kW (by omega);replace Tb:=Tb.below kW (by omega);replace g:=g.trans (kW.mono (by omega));clear kW k4;by_cases h0:ek=0
      · have he0:(ek==0)=true:=by rw [beq_iff_eq];exact h0
        obtain ⟨K0,K1,K2⟩:=K.cells
        go_wp2_with fail
        clear K0 K1 K2 r1 r2 kK;generalize hA:w4.alloc (.cells #[.bool bK,.slice z1 nk.length i1,.slice z2 dk.length i2] 110)=w5 at *;clear hA;refine (refNum_any K.rn K.rd (by omega) (by omega)).mono ?_;rintro e w6 ⟨a1,n1,c1,a2,n2,c2,rfl,k6⟩;have s6:=k6.size;replace Rb:=Rb.below k6 (by omega);replace Tb:=Tb.below k6 (by omega);replace g:=g.trans (k6.mono (by omega));clear k6 K;have T1b:=Tb.setk0 (.int .i64 1);have T1b:=T1b.set34 (.slice a1 n1 c1) (.slice a2 n2 c2);have hW1:Below w.heap.size w (((w6.setCell ⟨(w.heap.size+1),0,none⟩ (.int .i64 1)).setCell ⟨(w.heap.size+1),3,none⟩ (.slice a1 n1 c1)).setCell ⟨(w.heap.size+1),4,none⟩ (.slice a2 n2 c2)):=(((g.setCell (p:=⟨(w.heap.size+1),0,none⟩) (Nat.le_succ _) (.int .i64 1)).setCell (p:=⟨(w.heap.size+1),3,none⟩) (Nat.le_succ _) (.slice a1 n1 c1)).setCell (p:=⟨(w.heap.size+1),4,none⟩) (Nat.le_succ _) (.slice a2 n2 c2));have hcv:=conv_cut (cap:=cap) (i:=i) (j:=j) hij hjl (fun m hm=>(hW1.cell (p:=⟨b,off+m,none⟩) hlt).trans (HC.out m hm));obtain ⟨TX,hTX⟩:∃ TX,cutText cs i j=TX:=⟨_,rfl⟩;have HTX:Hid (cutText cs i j=TX):=hTX;rw [hTX] at hcv;clear hTX;have T2b:=T1b.setk1 (.string TX);have R2b:=((((Rb.other (p:=⟨(w.heap.size+1),0,none⟩) (show (w.heap.size+1)≠w.heap.size by omega) (.int .i64 1)).other (p:=⟨(w.heap.size+1),3,none⟩) (show (w.heap.size+1)≠w.heap.size by omega) (.slice a1 n1 c1)).other (p:=⟨(w.heap.size+1),4,none⟩) (show (w.heap.size+1)≠w.heap.size by omega) (.slice a2 n2 c2)).other (p:=⟨(w.heap.size+1),1,none⟩) (show (w.heap.size+1)≠w.heap.size by omega) (.string TX));have ta0:=Tb.cell 0 rfl;have ta3:=Tb.cell 3 rfl;have ta4:=Tb.cell 4 rfl;have taf0:=Tb.frozen 0;have taf3:=Tb.frozen 3;have taf4:=Tb.frozen 4;have tb1:=T1b.cell 1 rfl;have tbf1:=T1b.frozen 1;have tc0:=T2b.cell 0 rfl;have tc1:=T2b.cell 1 rfl;have tc2:=T2b.cell 2 rfl;have tc3:=T2b.cell 3 rfl;have tc4:=T2b.cell 4 rfl;have rc0:=R2b.cell 0 rfl;have rc1:=R2b.cell 1 rfl;have rc2:=R2b.cell 2 rfl;have rc3:=R2b.cell 3 rfl;have rc4:=R2b.cell 4 rfl;have rcf0:=R2b.frozen 0;have rcf1:=R2b.frozen 1;have rcf2:=R2b.frozen 2;have rcf3:=R2b.frozen 3;have rcf4:=R2b.frozen 4;have h2:=hW1.setCell (p:=⟨(w.heap.size+1),1,none⟩) (Nat.le_succ _) (.string TX);clear T1b hW1;go_wp2
        have R8:=R2b.set5 (.int .i64 1) (.string TX) (.int .i64 i) (.slice a1 n1 c1) (.slice a2 n2 c2);have x0:=R8.cell 0 rfl;have x1:=R8.cell 1 rfl;have x2:=R8.cell 2 rfl;have x3:=R8.cell 3 rfl;have x4:=R8.cell 4 rfl;refine bodyPost_ret (v:=.tuple #[.agg #[.int .i64 1,.string TX,.int .i64 i,.slice a1 n1 c1,.slice a2 n2 c2],.int .i64 j,.int .i64 0]) (by simp [results,Tryz.results65,go_sem,x0,x1,x2,x3,x4]) rfl ?_;rw [HF.out];exact Or.inl ⟨by dsimp only;rw [HE.out,HTX0.out,HEr.out];exact h0,a1,n1,c1,a2,n2,c2,by dsimp only;rw [HE.out,HTX.out],Below.set5 h2 (Nat.le_refl _) _ _ _ _ _⟩
      · have he0:(ek==0)=false:=by rw [beq_eq_false_iff_ne];exact h0
        clear K kK r1 r2;have rc0:=Rb.cell 0 rfl;have rc1:=Rb.cell 1 rfl;have rc2:=Rb.cell 2 rfl;have rc3:=Rb.cell 3 rfl;have rc4:=Rb.cell 4 rfl;have rcf0:=Rb.frozen 0;have rcf1:=Rb.frozen 1;have rcf2:=Rb.frozen 2;have rcf3:=Rb.frozen 3;have rcf4:=Rb.frozen 4;go_wp2
        have R8:=Rb.set5 (.int .i64 0) (.string ⟨#[]⟩) (.int .i64 0) (.slice none 0 0) (.slice none 0 0);have x0:=R8.cell 0 rfl;have x1:=R8.cell 1 rfl;have x2:=R8.cell 2 rfl;have x3:=R8.cell 3 rfl;have x4:=R8.cell 4 rfl;refine bodyPost_ret (v:=.tuple #[.agg #[.int .i64 0,.string ⟨#[]⟩,.int .i64 0,.slice none 0 0,.slice none 0 0],.int .i64 0,.int .i64 ek]) (by simp [results,Tryz.results65,go_sem,x0,x1,x2,x3,x4]) rfl ?_;rw [HF.out];exact Or.inr ⟨by dsimp only;rw [HE.out,HTX0.out,HEr.out];exact h0,by dsimp only;rw [HE.out,HTX0.out,HEr.out],Below.set5 g (Nat.le_refl _) _ _ _ _ _⟩
  have hnf:(dg C || decide (C=175))=false:=by simpa using hnum
  have HF0:Hid (¬ (C=175∨dg C=true)):=by unfold Hid;simpa [and_comm] using hnum
  rw [hnf];clear hnf hnum;by_cases h39:C=39
  · have e1:(C==39)=true:=by rw [beq_iff_eq];exact h39
    have HF:Hid (nextF ne cs i=(match qscan cs cs.length (i+1) [] with | some p=>(2,p.2,0) | none=>(0,0,26))):=by
     unfold Hid nextF;rw [HCC.out,if_neg HF0.out,if_pos h39] <;> rfl
    clear h39;obtain ⟨i0,hi0,hz0,hz1,hz2⟩:=info_parts info_i32;clear hc1;go_wp2
    go_loopw [8,12] (fun ev tv wr=>∃ (e f:Nat) (acc:List Int) (a:Option Addr) (c:Nat),ev=.int .i64 e∧tv=.slice a acc.length c∧OwnR (w.heap.size+1+1) wr (.slice a acc.length c) acc∧Hid (qscan cs f e acc=qscan cs cs.length (i+1) [])∧cs.length≤e+f∧i<e∧acc.length≤e∧e≤cs.length∧Below (w.heap.size+1+1) wc wr) (fun ev _ _=>cs.length - (intOf ev).toNat)
    case atStart=>exact ⟨i+1,cs.length,[],none,0,by go_num,rfl,World.ownsRow_nil _ _ _ _,rfl,by omega,by omega,by simp,by omega,Below.refl _ _⟩
    case round=>
     obtain ⟨e,f,acc,a,c,rfl,rfl,hO,HQ,hf,hie,hacc,hel,hb⟩:=hrel;have hsz:=hb.size;replace Rb:=Rb.below hb (by omega);replace Tb:=Tb.below hb (by omega);have g':=g.trans (hb.mono (by omega));by_cases hlt':e<cs.length
     · obtain ⟨f,rfl⟩:∃ f',f=f'+1:=⟨f - 1,by omega⟩
       have hce:=(g'.cell (p:=⟨b,off+e,none⟩) hlt).trans (HC.out e hlt');by_cases h39':cs.getD e 0=39
       · rw [h39'] at hce
         by_cases hnx:e+1<cs.length∧cs.getD (e+1) 0=39
         · have hce2:=(g'.cell (p:=⟨b,off+(e+1),none⟩) hlt).trans (HC.out (e+1) hnx.1)
           rw [hnx.2] at hce2;have HS:Hid (qscan cs f (e+2) (acc++[39])=qscan cs cs.length (i+1) []):=by
            unfold Hid;rw [← HQ.out,qscan,if_pos hlt',if_pos h39',if_neg (by omega)]
           have hnl:e+1<cs.length:=hnx.1;clear hnx h39' HQ
           go_wp2_with (at_builtin;refine wpList_append_own _ rfl _ _ 116 rfl (w.heap.size+1+1) 21 i0 (.int .i32 0) 1 4 Tryz.underlying116 hi0 hz0 hz1 hz2 rfl (by decide) _ _ _ rfl (hO.alloc _) ⟨_,0,none⟩ 1 1 [.int .i32 39] rfl rfl ?c1 ?c2 ?c3 ?c4 ?c5 ?_)
           case c1=>
            intro j u hj
            match j,hj with
            | 0,hj=>simp at hj;subst hj;simp [Addr.add]
           case c2=>intro u hu;simp at hu;subst hu;rfl
           case c3=>unfold maxLen;omega
           case c4=>omega
           case c5=>simp;omega
           intro v' w1 hown' hgrow _;have hO3:OwnR (w.heap.size+1+1) w1 v' (acc++[39]):=by
            unfold OwnR;rw [List.length_append,List.map_append];exact hown'
           obtain ⟨a2,c2,rfl⟩:=hO3.form;have hrow:∀ k,(Value.slice a acc.length c).ownBlock=some k→w.heap.size+1+1≤k:=fun k hk=>(hO.lt k hk).1;have hb3:Below (w.heap.size+1+1) wc w1:=(hb.alloc (by omega) _).grown hgrow (by simp;omega) (fun k hk=>hrow k hk);clear hown' hgrow hO hrow;go_wp2
           go_roundw
           case rel=>exact ⟨e+2,f,acc++[39],a2,c2,by go_num,(by first | rfl | simp),hO3,HS,by omega,by omega,(by simp;omega),by omega,hb3⟩
           case measure=>simp [intOf];omega
         · have HQs:Hid (qscan cs cs.length (i+1) []=some (acc,e+1)):=by
            unfold Hid;rw [← HQ.out,qscan,if_pos hlt',if_pos h39',if_pos (by omega)]
           have hij:i<e+1:=by omega
           have hjl:e+1≤cs.length:=by omega
           clear HQ h39';obtain ⟨j,hj⟩:∃ j,j=e+1:=⟨_,rfl⟩;have hje:(e:Int)+1=(j:Int):=by omega
           have HJJ:Hid (j=e+1):=hj;have hij:i<j:=by omega
           have hjl:j≤cs.length:=by omega
           clear hj;have hcx:=conv_own hO;obtain ⟨X,hX⟩:∃ X,runesBytes acc=X:=⟨_,rfl⟩;rw [hX] at hcx;have hXs:X.size≤9223372036854775807:=by
            rw [← hX];have:=runesBytes_size_le acc;omega
           clear hX;by_cases hend:j<cs.length
           case' pos=>
            have hce2:=(g'.cell (p:=⟨b,off+j,none⟩) hlt).trans (HC.out j hend);have e2:(cs.getD j 0==39)=false:=by
             rw [beq_eq_false_iff_ne];intro h;exact hnx ⟨by have:=HJJ.out;omega,by rw [← HJJ.out];exact h⟩
            clear hnx;generalize cs.getD j 0=D2 at *
           case' neg=>clear hnx
           all_goals
            go_wp2_with fail
            refine (refText_any X _ hXs).mono ?_;rintro e6 w6 ⟨a1,n1,c1,a2,n2,c2,rfl,k6⟩;have s6:=k6.size;have Tb6:=Tb.below k6 (by omega);have Rb6:=Rb.below k6 (by omega);have g6:=g'.trans (k6.mono (by omega));have hO6:=hO.below k6 (Nat.le_refl _);clear k6 Tb Rb hcx hXs hO hb hce g;by_cases h1:acc.length=1
            · have e1':((acc.length:Int)==1)=true:=by rw [beq_iff_eq];omega
              obtain ⟨gg,cg,hvg,hgl,hgk,hgc,hgcell⟩:=hO6.rd (by omega);obtain ⟨rfl,_,rfl⟩:=Value.slice.inj hvg;have hlo:∀ x,(Value.slice (some ⟨gg,0,none⟩) acc.length c).ownBlock=some x→w.heap.size+1+1≤x:=fun x hx=>(hO6.lt x hx).1;have hOx:OwnR (w.heap.size+1+1) (((w6.setCell ⟨(w.heap.size+1),0,none⟩ (.int .i64 2)).setCell ⟨(w.heap.size+1),3,none⟩ (.slice a1 n1 c1)).setCell ⟨(w.heap.size+1),4,none⟩ (.slice a2 n2 c2)) (.slice (some ⟨gg,0,none⟩) acc.length c) acc:=(ownsRow_setCell_other (ownsRow_setCell_other (ownsRow_setCell_other hO6 (a:=⟨(w.heap.size+1),0,none⟩) (fun e=>by have h:w.heap.size+1+1≤w.heap.size+1:=hlo _ e;omega) (.int .i64 2)) (a:=⟨(w.heap.size+1),3,none⟩) (fun e=>by have h:w.heap.size+1+1≤w.heap.size+1:=hlo _ e;omega) (.slice a1 n1 c1)) (a:=⟨(w.heap.size+1),4,none⟩) (fun e=>by have h:w.heap.size+1+1≤w.heap.size+1:=hlo _ e;omega) (.slice a2 n2 c2));have hcg:=hOx.cellAt 0 (by omega);have T1b:=(Tb6.setk0 (.int .i64 2)).set34 (.slice a1 n1 c1) (.slice a2 n2 c2);have R1b:=(((Rb6.other (p:=⟨(w.heap.size+1),0,none⟩) (show (w.heap.size+1)≠w.heap.size by omega) (.int .i64 2)).other (p:=⟨(w.heap.size+1),3,none⟩) (show (w.heap.size+1)≠w.heap.size by omega) (.slice a1 n1 c1)).other (p:=⟨(w.heap.size+1),4,none⟩) (show (w.heap.size+1)≠w.heap.size by omega) (.slice a2 n2 c2));have g7:Below w.heap.size w (((w6.setCell ⟨(w.heap.size+1),0,none⟩ (.int .i64 2)).setCell ⟨(w.heap.size+1),3,none⟩ (.slice a1 n1 c1)).setCell ⟨(w.heap.size+1),4,none⟩ (.slice a2 n2 c2)):=(((g6.setCell (p:=⟨(w.heap.size+1),0,none⟩) (Nat.le_succ _) (.int .i64 2)).setCell (p:=⟨(w.heap.size+1),3,none⟩) (Nat.le_succ _) (.slice a1 n1 c1)).setCell (p:=⟨(w.heap.size+1),4,none⟩) (Nat.le_succ _) (.slice a2 n2 c2));have ta0:=Tb6.cell 0 rfl;have ta3:=Tb6.cell 3 rfl;have ta4:=Tb6.cell 4 rfl;have taf0:=Tb6.frozen 0;have taf3:=Tb6.frozen 3;have taf4:=Tb6.frozen 4;obtain ⟨c0,hc0⟩:∃ c0,(acc.map (Value.int .i32))[0]? = some (.int .i32 c0):=by
               cases acc with
               | nil=>simp at h1
               | cons x l=>exact ⟨x,rfl⟩
              rw [hc0] at hcg;have hp1:0<acc.length:=by omega
              clear hgcell hOx hc0 h1 hlo hO6
              go_wp2_with fail
              have sz1:(((w6.setCell ⟨(w.heap.size+1),0,none⟩ (.int .i64 2)).setCell ⟨(w.heap.size+1),3,none⟩ (.slice a1 n1 c1)).setCell ⟨(w.heap.size+1),4,none⟩ (.slice a2 n2 c2)).heap.size=w6.heap.size:=by simp [World.setCell]
              refine (refChar_any c0 _).mono ?_;rintro e7 w7 ⟨k,rfl,_,_,k7⟩;have s7:=k7.size;have Tb:=T1b.below k7 (by omega);have Rb:=R1b.below k7 (by omega);have g:=g7.trans (k7.mono (by omega));clear k7 T1b R1b g7 Tb6 Rb6 g6 ta0 ta3 ta4 taf0 taf3 taf4 hcg;have T1b:=Tb;have T1b:=Tb.set34 (.slice none 0 0) (.slice (some ⟨k,0,none⟩) 1 1);have hW1:Below w.heap.size w ((w7.setCell ⟨(w.heap.size+1),3,none⟩ (.slice none 0 0)).setCell ⟨(w.heap.size+1),4,none⟩ (.slice (some ⟨k,0,none⟩) 1 1)):=((g.setCell (p:=⟨(w.heap.size+1),3,none⟩) (Nat.le_succ _) (.slice none 0 0)).setCell (p:=⟨(w.heap.size+1),4,none⟩) (Nat.le_succ _) (.slice (some ⟨k,0,none⟩) 1 1));have hcv:=conv_cut (cap:=cap) (i:=i) (j:=j) hij hjl (fun m hm=>(hW1.cell (p:=⟨b,off+m,none⟩) hlt).trans (HC.out m hm));obtain ⟨TX,hTX⟩:∃ TX,cutText cs i j=TX:=⟨_,rfl⟩;have HTX:Hid (cutText cs i j=TX):=hTX;rw [hTX] at hcv;clear hTX;have T2b:=T1b.setk1 (.string TX);have R2b:=(((Rb.other (p:=⟨(w.heap.size+1),3,none⟩) (show (w.heap.size+1)≠w.heap.size by omega) (.slice none 0 0)).other (p:=⟨(w.heap.size+1),4,none⟩) (show (w.heap.size+1)≠w.heap.size by omega) (.slice (some ⟨k,0,none⟩) 1 1)).other (p:=⟨(w.heap.size+1),1,none⟩) (show (w.heap.size+1)≠w.heap.size by omega) (.string TX));have ta3:=Tb.cell 3 rfl;have ta4:=Tb.cell 4 rfl;have taf3:=Tb.frozen 3;have taf4:=Tb.frozen 4;have tb1:=T1b.cell 1 rfl;have tbf1:=T1b.frozen 1;have tc0:=T2b.cell 0 rfl;have tc1:=T2b.cell 1 rfl;have tc2:=T2b.cell 2 rfl;have tc3:=T2b.cell 3 rfl;have tc4:=T2b.cell 4 rfl;have rc0:=R2b.cell 0 rfl;have rc1:=R2b.cell 1 rfl;have rc2:=R2b.cell 2 rfl;have rc3:=R2b.cell 3 rfl;have rc4:=R2b.cell 4 rfl;have rcf0:=R2b.frozen 0;have rcf1:=R2b.frozen 1;have rcf2:=R2b.frozen 2;have rcf3:=R2b.frozen 3;have rcf4:=R2b.frozen 4;have h2:=hW1.setCell (p:=⟨(w.heap.size+1),1,none⟩) (Nat.le_succ _) (.string TX);clear T1b hW1;go_wp2
              have R8:=R2b.set5 (.int .i64 2) (.string TX) (.int .i64 i) (.slice none 0 0) (.slice (some ⟨k,0,none⟩) 1 1);have x0:=R8.cell 0 rfl;have x1:=R8.cell 1 rfl;have x2:=R8.cell 2 rfl;have x3:=R8.cell 3 rfl;have x4:=R8.cell 4 rfl;refine bodyPost_ret (v:=.tuple #[.agg #[.int .i64 2,.string TX,.int .i64 i,.slice none 0 0,.slice (some ⟨k,0,none⟩) 1 1],.int .i64 j,.int .i64 0]) (by simp [results,Tryz.results65,go_sem,x0,x1,x2,x3,x4]) rfl ?_;rw [HF.out,HQs.out];exact Or.inl ⟨rfl,none,0,0,some ⟨k,0,none⟩,1,1,by dsimp only;rw [← HJJ.out,HTX.out],Below.set5 h2 (Nat.le_refl _) _ _ _ _ _⟩
            · have e1':((acc.length:Int)==1)=false:=by rw [beq_eq_false_iff_ne];omega
              have Tb:=Tb6;have Rb:=Rb6;have g:=g6;clear h1 Tb6 Rb6 g6 hO6;have T1b:=Tb.setk0 (.int .i64 2);have T1b:=T1b.set34 (.slice a1 n1 c1) (.slice a2 n2 c2);have hW1:Below w.heap.size w (((w6.setCell ⟨(w.heap.size+1),0,none⟩ (.int .i64 2)).setCell ⟨(w.heap.size+1),3,none⟩ (.slice a1 n1 c1)).setCell ⟨(w.heap.size+1),4,none⟩ (.slice a2 n2 c2)):=(((g.setCell (p:=⟨(w.heap.size+1),0,none⟩) (Nat.le_succ _) (.int .i64 2)).setCell (p:=⟨(w.heap.size+1),3,none⟩) (Nat.le_succ _) (.slice a1 n1 c1)).setCell (p:=⟨(w.heap.size+1),4,none⟩) (Nat.le_succ _) (.slice a2 n2 c2));have hcv:=conv_cut (cap:=cap) (i:=i) (j:=j) hij hjl (fun m hm=>(hW1.cell (p:=⟨b,off+m,none⟩) hlt).trans (HC.out m hm));obtain ⟨TX,hTX⟩:∃ TX,cutText cs i j=TX:=⟨_,rfl⟩;have HTX:Hid (cutText cs i j=TX):=hTX;rw [hTX] at hcv;clear hTX;have T2b:=T1b.setk1 (.string TX);have R2b:=((((Rb.other (p:=⟨(w.heap.size+1),0,none⟩) (show (w.heap.size+1)≠w.heap.size by omega) (.int .i64 2)).other (p:=⟨(w.heap.size+1),3,none⟩) (show (w.heap.size+1)≠w.heap.size by omega) (.slice a1 n1 c1)).other (p:=⟨(w.heap.size+1),4,none⟩) (show (w.heap.size+1)≠w.heap.size by omega) (.slice a2 n2 c2)).other (p:=⟨(w.heap.size+1),1,none⟩) (show (w.heap.size+1)≠w.heap.size by omega) (.string TX));have ta0:=Tb.cell 0 rfl;have ta3:=Tb.cell 3 rfl;have ta4:=Tb.cell 4 rfl;have taf0:=Tb.frozen 0;have taf3:=Tb.frozen 3;have taf4:=Tb.frozen 4;have tb1:=T1b.cell 1 rfl;have tbf1:=T1b.frozen 1;have tc0:=T2b.cell 0 rfl;have tc1:=T2b.cell 1 rfl;have tc2:=T2b.cell 2 rfl;have tc3:=T2b.cell 3 rfl;have tc4:=T2b.cell 4 rfl;have rc0:=R2b.cell 0 rfl;have rc1:=R2b.cell 1 rfl;have rc2:=R2b.cell 2 rfl;have rc3:=R2b.cell 3 rfl;have rc4:=R2b.cell 4 rfl;have rcf0:=R2b.frozen 0;have rcf1:=R2b.frozen 1;have rcf2:=R2b.frozen 2;have rcf3:=R2b.frozen 3;have rcf4:=R2b.frozen 4;have h2:=hW1.setCell (p:=⟨(w.heap.size+1),1,none⟩) (Nat.le_succ _) (.string TX);clear T1b hW1;go_wp2
              have R8:=R2b.set5 (.int .i64 2) (.string TX) (.int .i64 i) (.slice a1 n1 c1) (.slice a2 n2 c2);have x0:=R8.cell 0 rfl;have x1:=R8.cell 1 rfl;have x2:=R8.cell 2 rfl;have x3:=R8.cell 3 rfl;have x4:=R8.cell 4 rfl;refine bodyPost_ret (v:=.tuple #[.agg #[.int .i64 2,.string TX,.int .i64 i,.slice a1 n1 c1,.slice a2 n2 c2],.int .i64 j,.int .i64 0]) (by simp [results,Tryz.results65,go_sem,x0,x1,x2,x3,x4]) rfl ?_;rw [HF.out,HQs.out];exact Or.inl ⟨rfl,a1,n1,c1,a2,n2,c2,by dsimp only;rw [← HJJ.out,HTX.out],Below.set5 h2 (Nat.le_refl _) _ _ _ _ _⟩
       · have e1:(cs.getD e 0==39)=false:=by rw [beq_eq_false_iff_ne];exact h39'
         have HS:Hid (qscan cs f (e+1) (acc++[cs.getD e 0])=qscan cs cs.length (i+1) []):=by
          unfold Hid;rw [← HQ.out,qscan,if_pos hlt',if_neg h39']
         clear HQ h39';generalize cs.getD e 0=D at *
         go_wp2_with (at_builtin;refine wpList_append_own _ rfl _ _ 116 rfl (w.heap.size+1+1) 21 i0 (.int .i32 0) 1 4 Tryz.underlying116 hi0 hz0 hz1 hz2 rfl (by decide) _ _ _ rfl (hO.alloc _) ⟨_,0,none⟩ 1 1 [.int .i32 D] rfl rfl ?c1 ?c2 ?c3 ?c4 ?c5 ?_)
         case c1=>
          intro j u hj
          match j,hj with
          | 0,hj=>simp at hj;subst hj;simp [Addr.add]
         case c2=>intro u hu;simp at hu;subst hu;rfl
         case c3=>unfold maxLen;omega
         case c4=>omega
         case c5=>simp;omega
         intro v' w1 hown' hgrow _;have hO3:OwnR (w.heap.size+1+1) w1 v' (acc++[D]):=by
          unfold OwnR;rw [List.length_append,List.map_append];exact hown'
         obtain ⟨a2,c2,rfl⟩:=hO3.form;have hrow:∀ k,(Value.slice a acc.length c).ownBlock=some k→w.heap.size+1+1≤k:=fun k hk=>(hO.lt k hk).1;have hb3:Below (w.heap.size+1+1) wc w1:=(hb.alloc (by omega) _).grown hgrow (by simp;omega) (fun k hk=>hrow k hk);clear hown' hgrow hO hrow;go_wp2
         go_roundw
         case rel=>exact ⟨e+1,f,acc++[D],a2,c2,by go_num,(by first | rfl | simp),hO3,HS,by omega,by omega,(by simp;omega),by omega,hb3⟩
         case measure=>simp [intOf];omega
     · have HN:Hid (qscan cs cs.length (i+1) []=none):=by
        unfold Hid;rw [← HQ.out]
        cases f with
        | zero=>rfl
        | succ f=>rw [qscan,if_neg hlt']
       clear HQ;have rc0:=Rb.cell 0 rfl;have rc1:=Rb.cell 1 rfl;have rc2:=Rb.cell 2 rfl;have rc3:=Rb.cell 3 rfl;have rc4:=Rb.cell 4 rfl;have rcf0:=Rb.frozen 0;have rcf1:=Rb.frozen 1;have rcf2:=Rb.frozen 2;have rcf3:=Rb.frozen 3;have rcf4:=Rb.frozen 4;go_wp2
       have R8:=Rb.set5 (.int .i64 0) (.string ⟨#[]⟩) (.int .i64 0) (.slice none 0 0) (.slice none 0 0);have x0:=R8.cell 0 rfl;have x1:=R8.cell 1 rfl;have x2:=R8.cell 2 rfl;have x3:=R8.cell 3 rfl;have x4:=R8.cell 4 rfl;refine bodyPost_ret (v:=.tuple #[.agg #[.int .i64 0,.string ⟨#[]⟩,.int .i64 0,.slice none 0 0,.slice none 0 0],.int .i64 0,.int .i64 26]) (by simp [results,Tryz.results65,go_sem,x0,x1,x2,x3,x4]) rfl ?_;rw [HF.out,HN.out];exact Or.inr ⟨by decide,rfl,Below.set5 g' (Nat.le_refl _) _ _ _ _ _⟩
  have e39:(C==39)=false:=by rw [beq_eq_false_iff_ne];exact h39
  by_cases hbn:bn C=true
  · have HF:Hid (nextF ne cs i=(if runEnd inm cs i - i≤32 then (3,runEnd inm cs i,0) else (0,0,27))):=by
     unfold Hid nextF;rw [HCC.out,if_neg HF0.out,if_neg h39,if_pos hbn]
    clear h39
    go_wp2_with fail
    refine (refIsLetter_any C _).mono ?_;rintro e w' ⟨rfl,hw⟩;obtain rfl:=hw.symm;rw [hbn];go_wp2
    go_loopw [8] (fun ev wr=>∃ j:Nat,ev=.int .i64 j∧i+1≤j∧j≤cs.length∧Hid (∀ m,i≤m→m<j→inm (cs.getD m 0)=true)∧wr=wc) (fun ev _=>cs.length - (intOf ev).toNat)
    case atStart=>exact ⟨i+1,by go_num,by omega,by omega,(fun m h1 h2=>(show inm (cs.getD m 0)=true by rw [show m=i by omega,HCC.out];unfold inm;rw [hbn];rfl)),rfl⟩
    case round=>
     obtain ⟨j,rfl,hij',hj,HJ,rfl⟩:=hrel;by_cases hgo:j<cs.length∧inm (cs.getD j 0)=true
     · obtain ⟨hjl,hin⟩:=hgo
       have hcj':=(g.cell (p:=⟨b,off+j,none⟩) hlt).trans (HC.out j hjl);have HJ2:Hid (∀ m,i≤m→m<j+1→inm (cs.getD m 0)=true):=fun m h1 h2=>by
        by_cases hm:m=j
        · rw [hm];exact hin
        · exact HJ.out m h1 (by omega)
       clear hc1 HJ;generalize cs.getD j 0=D at *
       go_wp2_with fail
       refine (refIsLetter_any D _).mono ?_;rintro e w' ⟨rfl,hw⟩;obtain rfl:=hw.symm
       cases hd:bn D with
       | true=>
        clear hin;go_wp2
        go_roundw
        case rel=>exact ⟨j+1,by go_num,by omega,by omega,HJ2,(by first | trivial | rfl)⟩
        case measure=>simp [intOf];omega
       | false=>
        have hg:dg D=true:=by unfold inm at hin;rw [hd] at hin;simpa using hin
        clear hin
        go_wp2_with fail
        refine (refIsDigit_any D _).mono ?_;rintro e w' ⟨rfl,hw⟩;obtain rfl:=hw.symm;rw [hg];go_wp2
        go_roundw
        case rel=>exact ⟨j+1,by go_num,by omega,by omega,HJ2,(by first | trivial | rfl)⟩
        case measure=>simp [intOf];omega
     have HE:Hid (runEnd inm cs (i)=j):=runEnd_is (by omega) hj HJ.out (by
      by_cases hjl:j<cs.length
      · exact Or.inr (by simpa [hjl] using hgo)
      · exact Or.inl (by omega))
     clear hc1 HJ;by_cases hjl:j<cs.length
     case' pos=>
      have hcj':=(g.cell (p:=⟨b,off+j,none⟩) hlt).trans (HC.out j hjl);have hin:inm (cs.getD j 0)=false:=by simpa [hjl] using hgo
      clear hgo;generalize cs.getD j 0=D at *;have hd:bn D=false:=by unfold inm at hin;simp at hin;exact hin.1
      have hg:dg D=false:=by unfold inm at hin;simp at hin;exact hin.2
      clear hin
      go_wp2_with fail
      refine (refIsLetter_any D _).mono ?_;rintro e w' ⟨rfl,hw⟩;obtain rfl:=hw.symm;rw [hd]
      go_wp2_with fail
      refine (refIsDigit_any D _).mono ?_;rintro e w' ⟨rfl,hw⟩;obtain rfl:=hw.symm;rw [hg]
     case' neg=>clear hgo
     all_goals
      have hij:i<j:=by omega
      have hjl:j≤cs.length:=hj;by_cases h32:j - i≤32
      · skip
        have T1b:=Tb.setk0 (.int .i64 3);have hW1:Below w.heap.size w (wr.setCell ⟨(w.heap.size+1),0,none⟩ (.int .i64 3)):=(g.setCell (p:=⟨(w.heap.size+1),0,none⟩) (Nat.le_succ _) (.int .i64 3));have hcv:=conv_cut (cap:=cap) (i:=i) (j:=j) hij hjl (fun m hm=>(hW1.cell (p:=⟨b,off+m,none⟩) hlt).trans (HC.out m hm));obtain ⟨TX,hTX⟩:∃ TX,cutText cs i j=TX:=⟨_,rfl⟩;have HTX:Hid (cutText cs i j=TX):=hTX;rw [hTX] at hcv;clear hTX;have T2b:=T1b.setk1 (.string TX);have R2b:=((Rb.other (p:=⟨(w.heap.size+1),0,none⟩) (show (w.heap.size+1)≠w.heap.size by omega) (.int .i64 3)).other (p:=⟨(w.heap.size+1),1,none⟩) (show (w.heap.size+1)≠w.heap.size by omega) (.string TX));have ta0:=Tb.cell 0 rfl;have taf0:=Tb.frozen 0;have tb1:=T1b.cell 1 rfl;have tbf1:=T1b.frozen 1;have tc0:=T2b.cell 0 rfl;have tc1:=T2b.cell 1 rfl;have tc2:=T2b.cell 2 rfl;have tc3:=T2b.cell 3 rfl;have tc4:=T2b.cell 4 rfl;have rc0:=R2b.cell 0 rfl;have rc1:=R2b.cell 1 rfl;have rc2:=R2b.cell 2 rfl;have rc3:=R2b.cell 3 rfl;have rc4:=R2b.cell 4 rfl;have rcf0:=R2b.frozen 0;have rcf1:=R2b.frozen 1;have rcf2:=R2b.frozen 2;have rcf3:=R2b.frozen 3;have rcf4:=R2b.frozen 4;have h2:=hW1.setCell (p:=⟨(w.heap.size+1),1,none⟩) (Nat.le_succ _) (.string TX);clear T1b hW1;go_wp2
        have R8:=R2b.set5 (.int .i64 3) (.string TX) (.int .i64 i) (.slice none 0 0) (.slice none 0 0);have x0:=R8.cell 0 rfl;have x1:=R8.cell 1 rfl;have x2:=R8.cell 2 rfl;have x3:=R8.cell 3 rfl;have x4:=R8.cell 4 rfl;refine bodyPost_ret (v:=.tuple #[.agg #[.int .i64 3,.string TX,.int .i64 i,.slice none 0 0,.slice none 0 0],.int .i64 j,.int .i64 0]) (by simp [results,Tryz.results65,go_sem,x0,x1,x2,x3,x4]) rfl ?_;rw [HF.out];rw [HE.out,if_pos h32];exact Or.inl ⟨rfl,none,0,0,none,0,0,by dsimp only;rw [HTX.out],Below.set5 h2 (Nat.le_refl _) _ _ _ _ _⟩
      · skip
        have rc0:=Rb.cell 0 rfl;have rc1:=Rb.cell 1 rfl;have rc2:=Rb.cell 2 rfl;have rc3:=Rb.cell 3 rfl;have rc4:=Rb.cell 4 rfl;have rcf0:=Rb.frozen 0;have rcf1:=Rb.frozen 1;have rcf2:=Rb.frozen 2;have rcf3:=Rb.frozen 3;have rcf4:=Rb.frozen 4;go_wp2
        have R8:=Rb.set5 (.int .i64 0) (.string ⟨#[]⟩) (.int .i64 0) (.slice none 0 0) (.slice none 0 0);have x0:=R8.cell 0 rfl;have x1:=R8.cell 1 rfl;have x2:=R8.cell 2 rfl;have x3:=R8.cell 3 rfl;have x4:=R8.cell 4 rfl;refine bodyPost_ret (v:=.tuple #[.agg #[.int .i64 0,.string ⟨#[]⟩,.int .i64 0,.slice none 0 0,.slice none 0 0],.int .i64 0,.int .i64 27]) (by simp [results,Tryz.results65,go_sem,x0,x1,x2,x3,x4]) rfl ?_;rw [HF.out];rw [HE.out,if_neg h32];exact Or.inr ⟨by decide,rfl,Below.set5 g (Nat.le_refl _) _ _ _ _ _⟩
  have hbf:bn C=false:=by simpa using hbn
  by_cases hq:C=9109
  · have e1:(C==9109)=true:=by rw [beq_iff_eq];exact hq
    have HF:Hid (nextF ne cs i=(4,runEnd lt cs (i+1),0)):=by
     unfold Hid nextF;rw [HCC.out,if_neg HF0.out,if_neg h39,if_neg hbn,if_pos hq]
    clear h39 hbn hq
    go_wp2_with fail
    refine (refIsLetter_any C _).mono ?_;rintro e w' ⟨rfl,hw⟩;obtain rfl:=hw.symm;rw [hbf];go_wp2
    go_loopw [8] (fun ev wr=>∃ j:Nat,ev=.int .i64 j∧i+1≤j∧j≤cs.length∧Hid (∀ m,i+1≤m→m<j→lt (cs.getD m 0)=true)∧wr=wc) (fun ev _=>cs.length - (intOf ev).toNat)
    case atStart=>exact ⟨i+1,by go_num,by omega,by omega,(fun m h1 h2=>by omega),rfl⟩
    case round=>
     obtain ⟨j,rfl,hij',hj,HJ,rfl⟩:=hrel;by_cases hgo:j<cs.length∧lt (cs.getD j 0)=true
     · obtain ⟨hjl,hin⟩:=hgo
       have hcj':=(g.cell (p:=⟨b,off+j,none⟩) hlt).trans (HC.out j hjl);have HJ2:Hid (∀ m,i+1≤m→m<j+1→lt (cs.getD m 0)=true):=fun m h1 h2=>by
        by_cases hm:m=j
        · rw [hm];exact hin
        · exact HJ.out m h1 (by omega)
       clear hc1 HJ;generalize cs.getD j 0=D at *;have hcs:(65≤D∧D≤90)∨(97≤D∧D≤122):=by unfold lt at hin;simpa using hin
       clear hin;rcases hcs with ⟨h1,h2⟩ | ⟨h1,h2⟩
       · skip
         go_wp2
         go_roundw
         case rel=>exact ⟨j+1,by go_num,by omega,by omega,HJ2,(by first | trivial | rfl)⟩
         case measure=>simp [intOf];omega
       · have h3:65≤D:=by omega
         have h4:¬ D≤90:=by omega
         go_wp2
         go_roundw
         case rel=>exact ⟨j+1,by go_num,by omega,by omega,HJ2,(by first | trivial | rfl)⟩
         case measure=>simp [intOf];omega
     have HE:Hid (runEnd lt cs (i+1)=j):=runEnd_is (by omega) hj HJ.out (by
      by_cases hjl:j<cs.length
      · exact Or.inr (by simpa [hjl] using hgo)
      · exact Or.inl (by omega))
     clear hc1 HJ;by_cases hjl:j<cs.length
     case' pos=>
      have hcj':=(g.cell (p:=⟨b,off+j,none⟩) hlt).trans (HC.out j hjl);have hin:lt (cs.getD j 0)=false:=by simpa [hjl] using hgo
      clear hgo;generalize cs.getD j 0=D at *;have hcs:D<65∨(90<D∧D<97)∨122<D:=by unfold lt at hin;simp at hin;omega
      clear hin;rcases hcs with h1 | ⟨h1,h2⟩ | h1
      case' inl=>
       have h3:¬ 65≤D:=by omega
       have h4:¬ 97≤D:=by omega
      case' inr.inl=>
       have h3:65≤D:=by omega
       have h4:¬ D≤90:=by omega
       have h5:¬ 97≤D:=by omega
      case' inr.inr=>
       have h3:65≤D:=by omega
       have h4:¬ D≤90:=by omega
       have h5:97≤D:=by omega
       have h6:¬ D≤122:=by omega
     case' neg=>clear hgo
     all_goals
      have hij:i<j:=by omega
      have hjl:j≤cs.length:=hj;have T1b:=Tb.setk0 (.int .i64 4);have hW1:Below w.heap.size w (wr.setCell ⟨(w.heap.size+1),0,none⟩ (.int .i64 4)):=(g.setCell (p:=⟨(w.heap.size+1),0,none⟩) (Nat.le_succ _) (.int .i64 4));have hcv:=conv_cut (cap:=cap) (i:=i) (j:=j) hij hjl (fun m hm=>(hW1.cell (p:=⟨b,off+m,none⟩) hlt).trans (HC.out m hm));obtain ⟨TX,hTX⟩:∃ TX,cutText cs i j=TX:=⟨_,rfl⟩;have HTX:Hid (cutText cs i j=TX):=hTX;rw [hTX] at hcv;clear hTX;have T2b:=T1b.setk1 (.string TX);have R2b:=((Rb.other (p:=⟨(w.heap.size+1),0,none⟩) (show (w.heap.size+1)≠w.heap.size by omega) (.int .i64 4)).other (p:=⟨(w.heap.size+1),1,none⟩) (show (w.heap.size+1)≠w.heap.size by omega) (.string TX));have ta0:=Tb.cell 0 rfl;have taf0:=Tb.frozen 0;have tb1:=T1b.cell 1 rfl;have tbf1:=T1b.frozen 1;have tc0:=T2b.cell 0 rfl;have tc1:=T2b.cell 1 rfl;have tc2:=T2b.cell 2 rfl;have tc3:=T2b.cell 3 rfl;have tc4:=T2b.cell 4 rfl;have rc0:=R2b.cell 0 rfl;have rc1:=R2b.cell 1 rfl;have rc2:=R2b.cell 2 rfl;have rc3:=R2b.cell 3 rfl;have rc4:=R2b.cell 4 rfl;have rcf0:=R2b.frozen 0;have rcf1:=R2b.frozen 1;have rcf2:=R2b.frozen 2;have rcf3:=R2b.frozen 3;have rcf4:=R2b.frozen 4;have h2:=hW1.setCell (p:=⟨(w.heap.size+1),1,none⟩) (Nat.le_succ _) (.string TX);clear T1b hW1;go_wp2
      have R8:=R2b.set5 (.int .i64 4) (.string TX) (.int .i64 i) (.slice none 0 0) (.slice none 0 0);have x0:=R8.cell 0 rfl;have x1:=R8.cell 1 rfl;have x2:=R8.cell 2 rfl;have x3:=R8.cell 3 rfl;have x4:=R8.cell 4 rfl;refine bodyPost_ret (v:=.tuple #[.agg #[.int .i64 4,.string TX,.int .i64 i,.slice none 0 0,.slice none 0 0],.int .i64 j,.int .i64 0]) (by simp [results,Tryz.results65,go_sem,x0,x1,x2,x3,x4]) rfl ?_;rw [HF.out];rw [HE.out];exact Or.inl ⟨rfl,none,0,0,none,0,0,by dsimp only;rw [HTX.out],Below.set5 h2 (Nat.le_refl _) _ _ _ _ _⟩
  have e9:(C==9109)=false:=by rw [beq_eq_false_iff_ne];exact hq
  go_wp2_with fail
  refine (refIsLetter_any C _).mono ?_;rintro e w' ⟨rfl,hw⟩;obtain rfl:=hw.symm;rw [hbf]
  go_wp2_with fail
  refine (refIsPrimitive_any C _).mono ?_;rintro e w1 ⟨rfl,k1⟩;have s1:=k1.size;replace Rb:=Rb.below k1 (by omega);replace Tb:=Tb.below k1 (by omega);replace g:=g.trans (k1.mono (by omega));obtain ⟨j,hj⟩:∃ j,j=i+1:=⟨_,rfl⟩;have hje:(i:Int)+1=(j:Int):=by omega
  have hij:i<j:=by omega
  have hjl:j≤cs.length:=by omega
  rw [hje];clear hje;have HJJ:Hid (j=i+1):=hj;clear hj;by_cases hp:C∈decs prims prims.size 0
  · have HF:Hid (nextF ne cs i=(5,i+1,0)):=by
     unfold Hid nextF;rw [HCC.out,if_neg HF0.out,if_neg h39,if_neg hbn,if_neg hq,if_pos hp]
    rw [decide_eq_true hp];clear h39 hbn hq hp k1;have T1b:=Tb.setk0 (.int .i64 5);have hW1:Below w.heap.size w (w1.setCell ⟨(w.heap.size+1),0,none⟩ (.int .i64 5)):=(g.setCell (p:=⟨(w.heap.size+1),0,none⟩) (Nat.le_succ _) (.int .i64 5));have hcv:=conv_cut (cap:=cap) (i:=i) (j:=j) hij hjl (fun m hm=>(hW1.cell (p:=⟨b,off+m,none⟩) hlt).trans (HC.out m hm));obtain ⟨TX,hTX⟩:∃ TX,cutText cs i j=TX:=⟨_,rfl⟩;have HTX:Hid (cutText cs i j=TX):=hTX;rw [hTX] at hcv;clear hTX;have T2b:=T1b.setk1 (.string TX);have R2b:=((Rb.other (p:=⟨(w.heap.size+1),0,none⟩) (show (w.heap.size+1)≠w.heap.size by omega) (.int .i64 5)).other (p:=⟨(w.heap.size+1),1,none⟩) (show (w.heap.size+1)≠w.heap.size by omega) (.string TX));have ta0:=Tb.cell 0 rfl;have taf0:=Tb.frozen 0;have tb1:=T1b.cell 1 rfl;have tbf1:=T1b.frozen 1;have tc0:=T2b.cell 0 rfl;have tc1:=T2b.cell 1 rfl;have tc2:=T2b.cell 2 rfl;have tc3:=T2b.cell 3 rfl;have tc4:=T2b.cell 4 rfl;have rc0:=R2b.cell 0 rfl;have rc1:=R2b.cell 1 rfl;have rc2:=R2b.cell 2 rfl;have rc3:=R2b.cell 3 rfl;have rc4:=R2b.cell 4 rfl;have rcf0:=R2b.frozen 0;have rcf1:=R2b.frozen 1;have rcf2:=R2b.frozen 2;have rcf3:=R2b.frozen 3;have rcf4:=R2b.frozen 4;have h2:=hW1.setCell (p:=⟨(w.heap.size+1),1,none⟩) (Nat.le_succ _) (.string TX);clear T1b hW1;go_wp2
    have R8:=R2b.set5 (.int .i64 5) (.string TX) (.int .i64 i) (.slice none 0 0) (.slice none 0 0);have x0:=R8.cell 0 rfl;have x1:=R8.cell 1 rfl;have x2:=R8.cell 2 rfl;have x3:=R8.cell 3 rfl;have x4:=R8.cell 4 rfl;refine bodyPost_ret (v:=.tuple #[.agg #[.int .i64 5,.string TX,.int .i64 i,.slice none 0 0,.slice none 0 0],.int .i64 j,.int .i64 0]) (by simp [results,Tryz.results65,go_sem,x0,x1,x2,x3,x4]) rfl ?_;rw [HF.out];exact Or.inl ⟨rfl,none,0,0,none,0,0,by dsimp only;rw [← HJJ.out,HTX.out],Below.set5 h2 (Nat.le_refl _) _ _ _ _ _⟩
  rw [decide_eq_false hp]
  go_wp2_with fail
  refine (refSigns_any _).mono ?_;rintro e w2 ⟨rfl,rfl⟩
  go_wp2_with fail
  refine (refIn_any sgns C _).mono ?_;rintro e w3 ⟨rfl,k3⟩;have s3:=k3.size;replace Rb:=Rb.below k3 (by omega);replace Tb:=Tb.below k3 (by omega);replace g:=g.trans (k3.mono (by omega));by_cases hs:C∈decs sgns sgns.size 0
  · have HF:Hid (nextF ne cs i=(6,i+1,0)):=by
     unfold Hid nextF;rw [HCC.out,if_neg HF0.out,if_neg h39,if_neg hbn,if_neg hq,if_neg hp,if_pos hs]
    rw [decide_eq_true hs];clear h39 hbn hq hp hs k1 k3;have T1b:=Tb.setk0 (.int .i64 6);have hW1:Below w.heap.size w (w3.setCell ⟨(w.heap.size+1),0,none⟩ (.int .i64 6)):=(g.setCell (p:=⟨(w.heap.size+1),0,none⟩) (Nat.le_succ _) (.int .i64 6));have hcv:=conv_cut (cap:=cap) (i:=i) (j:=j) hij hjl (fun m hm=>(hW1.cell (p:=⟨b,off+m,none⟩) hlt).trans (HC.out m hm));obtain ⟨TX,hTX⟩:∃ TX,cutText cs i j=TX:=⟨_,rfl⟩;have HTX:Hid (cutText cs i j=TX):=hTX;rw [hTX] at hcv;clear hTX;have T2b:=T1b.setk1 (.string TX);have R2b:=((Rb.other (p:=⟨(w.heap.size+1),0,none⟩) (show (w.heap.size+1)≠w.heap.size by omega) (.int .i64 6)).other (p:=⟨(w.heap.size+1),1,none⟩) (show (w.heap.size+1)≠w.heap.size by omega) (.string TX));have ta0:=Tb.cell 0 rfl;have taf0:=Tb.frozen 0;have tb1:=T1b.cell 1 rfl;have tbf1:=T1b.frozen 1;have tc0:=T2b.cell 0 rfl;have tc1:=T2b.cell 1 rfl;have tc2:=T2b.cell 2 rfl;have tc3:=T2b.cell 3 rfl;have tc4:=T2b.cell 4 rfl;have rc0:=R2b.cell 0 rfl;have rc1:=R2b.cell 1 rfl;have rc2:=R2b.cell 2 rfl;have rc3:=R2b.cell 3 rfl;have rc4:=R2b.cell 4 rfl;have rcf0:=R2b.frozen 0;have rcf1:=R2b.frozen 1;have rcf2:=R2b.frozen 2;have rcf3:=R2b.frozen 3;have rcf4:=R2b.frozen 4;have h2:=hW1.setCell (p:=⟨(w.heap.size+1),1,none⟩) (Nat.le_succ _) (.string TX);clear T1b hW1;go_wp2
    have R8:=R2b.set5 (.int .i64 6) (.string TX) (.int .i64 i) (.slice none 0 0) (.slice none 0 0);have x0:=R8.cell 0 rfl;have x1:=R8.cell 1 rfl;have x2:=R8.cell 2 rfl;have x3:=R8.cell 3 rfl;have x4:=R8.cell 4 rfl;refine bodyPost_ret (v:=.tuple #[.agg #[.int .i64 6,.string TX,.int .i64 i,.slice none 0 0,.slice none 0 0],.int .i64 j,.int .i64 0]) (by simp [results,Tryz.results65,go_sem,x0,x1,x2,x3,x4]) rfl ?_;rw [HF.out];exact Or.inl ⟨rfl,none,0,0,none,0,0,by dsimp only;rw [← HJJ.out,HTX.out],Below.set5 h2 (Nat.le_refl _) _ _ _ _ _⟩
  have HF:Hid (nextF ne cs i=(0,0,26)):=by
   unfold Hid nextF;rw [HCC.out,if_neg HF0.out,if_neg h39,if_neg hbn,if_neg hq,if_neg hp,if_neg hs]
  rw [decide_eq_false hs];clear h39 hbn hq hp hs k1 k3;have rc0:=Rb.cell 0 rfl;have rc1:=Rb.cell 1 rfl;have rc2:=Rb.cell 2 rfl;have rc3:=Rb.cell 3 rfl;have rc4:=Rb.cell 4 rfl;have rcf0:=Rb.frozen 0;have rcf1:=Rb.frozen 1;have rcf2:=Rb.frozen 2;have rcf3:=Rb.frozen 3;have rcf4:=Rb.frozen 4;go_wp2
  have R8:=Rb.set5 (.int .i64 0) (.string ⟨#[]⟩) (.int .i64 0) (.slice none 0 0) (.slice none 0 0);have x0:=R8.cell 0 rfl;have x1:=R8.cell 1 rfl;have x2:=R8.cell 2 rfl;have x3:=R8.cell 3 rfl;have x4:=R8.cell 4 rfl;refine bodyPost_ret (v:=.tuple #[.agg #[.int .i64 0,.string ⟨#[]⟩,.int .i64 0,.slice none 0 0,.slice none 0 0],.int .i64 0,.int .i64 26]) (by simp [results,Tryz.results65,go_sem,x0,x1,x2,x3,x4]) rfl ?_;rw [HF.out];exact Or.inr ⟨by decide,rfl,Below.set5 g (Nat.le_refl _) _ _ _ _ _⟩
end
end Go.Proofs.YtimfnalpmmkndaaGreatDoor
