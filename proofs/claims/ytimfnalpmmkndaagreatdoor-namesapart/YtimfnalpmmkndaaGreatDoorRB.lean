/- glyphref04.All at any line. -/
import Derived.Test.YtimfnalpmmkndaaGreatDoorRN
set_option maxRecDepth 100000
set_option maxHeartbeats 16000000
set_option linter.unusedVariables false
set_option linter.unusedSimpArgs false
namespace Go.Proofs.YtimfnalpmmkndaaGreatDoor
open Go.RowKit
def TokG.cellsR (x:TokG):List Value:=[.int .i64 x.kd,.string x.tx,.int .i64 x.pl,.slice x.a1 x.n1 x.c1,.slice x.a2 x.n2 x.c2]
def refItemsF (ne:ByteArray→Int) (cs:List Int):Nat→Nat→List (Int×ByteArray×Nat×Int)
 | 0,_=>[]
 | f+1,i=>if i<cs.length∧¬ cs.getD i 0=9053 then
     if bl (cs.getD i 0)=true then refItemsF ne cs f (i+1)
     else if (nextF ne cs i).2.2=0 then ((nextF ne cs i).1,cutText cs i (nextF ne cs i).2.1,i,0) :: refItemsF ne cs f (nextF ne cs i).2.1
     else [(0,⟨#[]⟩,i,(nextF ne cs i).2.2)]
  else [(0,⟨#[]⟩,i,0)]
def refItems (ne:ByteArray→Int) (cs:List Int):List (Int×ByteArray×Nat×Int):=refItemsF ne cs (cs.length+1) 0
def refAllF (ne:ByteArray→Int) (s:ByteArray):List (Int×ByteArray×Nat×Int)×Int×Nat:=
 if 1024<s.size then ([],25,0)
 else if ¬ (scanR s s.size 0 []).2.1=0 then ([],(scanR s s.size 0 []).2)
 else if (lastEr (refItems ne (scanR s s.size 0 []).1)).1=0 then (refItems ne (scanR s s.size 0 []).1,0,0) else ([],lastEr (refItems ne (scanR s s.size 0 []).1))
def RefAllIs (w:World) (ne:ByteArray→Int) (s:ByteArray) (e:Ending) (w':World):Prop:=
 ∃ (v:Value) (toks:List TokG),e=.returned (.tuple #[v,.int .i64 (refAllF ne s).2.1,.int .i64 (((refAllF ne s).2.2:Nat):Int)])∧w'.ownsRow w.heap.size 71 5 v toks.length (toks.flatMap TokG.cellsR)∧toks.map TokG.core=(refAllF ne s).1∧Below w.heap.size w w'
theorem scanR_at (s:ByteArray):∀ (f pos:Nat) (acc:List Int),(scanR s f pos acc).2.1=0→(scanR s f pos acc).2.2=0
 | 0,pos,acc,h=>rfl
 | f+1,pos,acc,h=>by
  rw [scanR] at h ⊢;by_cases hp:pos<s.size
  · rw [if_pos hp] at h ⊢
    by_cases hb:(Utf8.decode s pos).1=65533∧(Utf8.decode s pos).2=1
    · rw [if_pos hb] at h;simp at h
    · rw [if_neg hb] at h ⊢;exact scanR_at s f _ _ h
  · rw [if_neg hp]
theorem info_rtok:(Tryz.prog.info? 71).map (fun i=>(i.zero,i.size,i.bytes))=some (some (.agg #[.int .i64 0,.string ⟨#[]⟩,.int .i64 0,.slice none 0 0,.slice none 0 0]),5,80):=by kernel_rfl
theorem refItemsF_len (ne:ByteArray→Int) (cs:List Int):∀ f i,(refItemsF ne cs f i).length≤f
 | 0,i=>by simp [refItemsF]
 | f+1,i=>by
  rw [refItemsF];by_cases h1:i<cs.length∧¬ cs.getD i 0=9053
  · rw [if_pos h1]
    by_cases hb:bl (cs.getD i 0)=true
    · rw [if_pos hb];have:=refItemsF_len ne cs f (i+1);omega
    · rw [if_neg hb]
      by_cases h2:(nextF ne cs i).2.2=0
      · rw [if_pos h2]
        have:=refItemsF_len ne cs f (nextF ne cs i).2.1;simp;omega
      · rw [if_neg h2];simp
  · rw [if_neg h1];simp
theorem row_belowX {W W':World} {base B e size n:Nat} {v:Value} {xs:List Value} (h:W.ownsRow base e size v n xs) (hb:Below B W W') (hB:W.heap.size≤B):W'.ownsRow base e size v n xs:=by
 obtain ⟨h1,h | ⟨g,cap,cur,hv,hg,hh,r⟩⟩:=h
 · exact ⟨h1,Or.inl h⟩
 · exact ⟨h1,Or.inr ⟨g,cap,cur,hv,hg,by rw [hb.block g (Nat.lt_of_lt_of_le (lt_of_block hh) hB)];exact hh,r⟩⟩
theorem bl_cases (c:Int):bl c=true↔c=32∨c=9:=by unfold bl;simp
theorem refAll_any {w:World} {ne:ByteArray→Int} (hne:TellsErr ne) (s:ByteArray) (hs:s.size≤9223372036854775807) (hT:Lib.Utf8Tabs 0 1 w) :
    Calls Tryz.prog 32 #[.string s] w fun e w'=>RefAllIs w ne s e w':=by
 have HNE:Hid (TellsErr ne):=hne;have HT:Hid (Lib.Utf8Tabs 0 1 w):=hT;clear hne hT;obtain ⟨i0,hi,hz0,hz1,hz2⟩:=info_parts info_rtok;go_enter Tryz.func32,Tryz.ntmps32;by_cases hbig:1024<s.size
 · have HF:Hid (refAllF ne s=([],25,0)):=by unfold Hid refAllF;rw [if_pos hbig]
   have hd13:decide ((1024:Int)<((s.size:Nat):Int))=true:=by simp;omega
   go_wp2
   refine bodyPost_ret (v:=.tuple #[.slice none 0 0,.int .i64 25,.int .i64 0]) (by simp [results,Tryz.results32,go_sem]) rfl ?_;exact ⟨.slice none 0 0,[],by rw [HF.out];rfl,World.ownsRow_nil _ _ _ _,by rw [HF.out];rfl,Below.refl _ _⟩
 have hd13:decide ((1024:Int)<((s.size:Nat):Int))=false:=by simp;omega
 go_wp2_with fail
 refine (refRunes_any s _ (by omega) HT.out).mono ?_;rintro e w1 ⟨cs,a,c,er,at',rfl,hO,HD,k1⟩;have s1:=k1.size;by_cases her:er=0
 case neg=>
  have HF:Hid (refAllF ne s=([],er,at')):=by unfold Hid refAllF;rw [if_neg hbig,HD.out,if_pos her]
  have he0:(er==0)=false:=by rw [beq_eq_false_iff_ne];exact her
  go_wp2
  refine bodyPost_ret (v:=.tuple #[.slice none 0 0,.int .i64 er,.int .i64 ((at':Nat):Int)]) (by simp [results,Tryz.results32,go_sem]) rfl ?_;exact ⟨.slice none 0 0,[],by rw [HF.out],World.ownsRow_nil _ _ _ _,by rw [HF.out];rfl,k1⟩
 subst her;obtain rfl:at'=0:=by
  have:=scanR_at s s.size 0 [];rw [HD.out] at this;exact this rfl
 have HF0:Hid (refAllF ne s=if (lastEr (refItems ne cs)).1=0 then (refItems ne cs,0,0) else ([],lastEr (refItems ne cs))):=by
  unfold Hid refAllF;rw [if_neg hbig,HD.out];rfl
 have hcl:cs.length≤1024:=by
  have:=scanR_len s s.size 0 [] (by simp) (by omega);rw [HD.out] at this;simp only at this;omega
 have HRD:Hid (RdR w1.heap.size w1 (.slice a cs.length c) cs):=hO.rdR;have HLEN:Hid (∀ f i,(refItemsF ne cs f i).length≤f):=refItemsF_len ne cs;clear HD hs hO hbig hd13;go_wp2
 go_loopw [7,8] (fun av ov wr=>∃ (i f:Nat) (pre:List TokG) (ao:Option Addr) (co:Nat),av=.int .i64 i∧ov=.slice ao pre.length co∧wr.ownsRow w1.heap.size 71 5 (.slice ao pre.length co) pre.length (pre.flatMap TokG.cellsR)∧Hid (pre.map TokG.core++refItemsF ne cs f i=refItems ne cs)∧Hid (∀ x∈pre,x.er=0)∧i≤cs.length∧cs.length<i+f∧pre.length≤i∧Below w1.heap.size w1 wr) (fun av _ _=>cs.length - (intOf av).toNat)
 case atStart=>exact ⟨0,cs.length+1,[],none,0,rfl,rfl,World.ownsRow_nil _ _ _ _,rfl,(fun x h=>by cases h),by omega,by omega,by simp,Below.refl _ _⟩
 case round=>
  obtain ⟨i,f,pre,ao,co,rfl,rfl,hO,HI,HE,hile,hfu,hpl,hb⟩:=hrel;obtain ⟨f,rfl⟩:∃ f',f=f'+1:=⟨f - 1,by omega⟩;have hsz:=hb.size;by_cases hgo:i<cs.length∧¬ cs.getD i 0=9053
  · obtain ⟨hil,h9⟩:=hgo
    obtain ⟨b,off,rfl,hbl,hk,hcap,hcc⟩:∃ b off,a=some ⟨b,off,none⟩∧b<w1.heap.size∧cs.length≤c∧c≤9223372036854775807∧∀ j,j<cs.length→wr.cell? ⟨b,off+j,none⟩=some (.int .i32 (cs.getD j 0)):=by
     obtain ⟨_,_,he,h1,h2,h⟩:=HRD.out.below hb;obtain ⟨rfl,_,rfl⟩:=Value.slice.inj he;rcases h with h | ⟨b,off,h3,h4,h5⟩
     · omega
     · exact ⟨b,off,h3,h4,h1,h2,h5⟩
    have hci:=hcc i hil;have HCC:Hid (∀ j,j<cs.length→wr.cell? ⟨b,off+j,none⟩=some (.int .i32 (cs.getD j 0))):=hcc;clear hcc;have e9:(cs.getD i 0==9053)=false:=by rw [beq_eq_false_iff_ne];exact h9
    by_cases hbk:bl (cs.getD i 0)=true
    · have HS:Hid (pre.map TokG.core++refItemsF ne cs f (i+1)=refItems ne cs):=by
       unfold Hid;rw [← HI.out,refItemsF,if_pos ⟨hil,h9⟩,if_pos hbk]
      have hb2:=(bl_cases _).1 hbk;clear hbk h9 HI HCC;generalize cs.getD i 0=D at *;rcases hb2 with rfl | rfl
      case' inl=>skip
      case' inr=>skip
      all_goals
       go_wp2
       go_roundw
       case rel=>exact ⟨i+1,f,pre,ao,co,by go_num,rfl,hO,HS,HE,by omega,by omega,by omega,hb⟩
       case measure=>simp [intOf];omega
    have e32:(cs.getD i 0==32)=false:=by rw [beq_eq_false_iff_ne];exact fun h=>hbk ((bl_cases _).2 (Or.inl h))
    have e8:(cs.getD i 0==9)=false:=by rw [beq_eq_false_iff_ne];exact fun h=>hbk ((bl_cases _).2 (Or.inr h))
    have HI2:Hid (pre.map TokG.core++(if (nextF ne cs i).2.2=0 then ((nextF ne cs i).1,cutText cs i (nextF ne cs i).2.1,i,(0:Int)) :: refItemsF ne cs f (nextF ne cs i).2.1 else [((0:Int),(⟨#[]⟩:ByteArray),i,(nextF ne cs i).2.2)])=refItems ne cs):=by
     unfold Hid;rw [← HI.out,refItemsF,if_pos (show i<cs.length∧¬ cs.getD i 0=9053 from ⟨hil,h9⟩),if_neg hbk]
    clear h9 hbk HI;generalize cs.getD i 0=D at *
    go_wp2_with fail
    refine (refNext_any HNE.out i hil (by omega) hk hcap HCC.out (by omega)).mono ?_;rintro e w2 (⟨h0,a1,n1,c1,a2,n2,c2,rfl,k2⟩ | ⟨h0,rfl,k2⟩)
    · have hje:=nextF_end ne cs i hil h0
      have HI3:Hid (pre.map TokG.core++((nextF ne cs i).1,cutText cs i (nextF ne cs i).2.1,i,(0:Int)) :: refItemsF ne cs f (nextF ne cs i).2.1=refItems ne cs):=by
       unfold Hid;rw [← HI2.out,if_pos h0]
      clear h0 HI2;generalize (nextF ne cs i).1=KD at *;generalize (nextF ne cs i).2.1=j at *;generalize cutText cs i j=TX at *;have k3:=below_alloc w2 (.cells #[.int .i64 KD,.string TX,.int .i64 i,.slice a1 n1 c1,.slice a2 n2 c2] 71);have Tk:=boxA_new w2 #[.int .i64 KD,.string TX,.int .i64 i,.slice a1 n1 c1,.slice a2 n2 c2] 71;have s2:=k2.size;have hO2:=(row_belowX hO k2 (Nat.le_refl _)).alloc (.cells #[.int .i64 KD,.string TX,.int .i64 i,.slice a1 n1 c1,.slice a2 n2 c2] 71);have hb2:=(hb.trans (k2.mono hsz)).trans (k3.mono (by omega));have m0:=Tk.cell 0 rfl;have m1:=Tk.cell 1 rfl;have m2:=Tk.cell 2 rfl;have m3:=Tk.cell 3 rfl;have m4:=Tk.cell 4 rfl;clear hO hb k2
      go_wp2_with (at_builtin;refine wpList_append_own _ rfl _ _ 67 rfl w1.heap.size 71 i0 (.agg #[.int .i64 0,.string ⟨#[]⟩,.int .i64 0,.slice none 0 0,.slice none 0 0]) 5 80 Tryz.underlying67 hi hz0 hz1 hz2 rfl (by decide) _ _ _ rfl (hO2.alloc _) ⟨_,0,none⟩ 1 1 (TokG.cellsR ⟨KD,TX,i,0,a1,n1,c1,a2,n2,c2⟩) rfl rfl ?c1 ?c2 ?c3 ?c4 ?c5 ?_)
      case c1=>
       intro j u hj;have NX:=boxA_new (w2.alloc (.cells #[.int .i64 KD,.string TX,.int .i64 i,.slice a1 n1 c1,.slice a2 n2 c2] 71)) #[.int .i64 KD,.string TX,.int .i64 i,.slice a1 n1 c1,.slice a2 n2 c2] 71
       (try rw [World.size_alloc] at NX)
       match j,hj with
       | 0,hj=>simp [TokG.cellsR] at hj;subst hj;exact NX.cell 0 rfl
       | 1,hj=>simp [TokG.cellsR] at hj;subst hj;exact NX.cell 1 rfl
       | 2,hj=>simp [TokG.cellsR] at hj;subst hj;exact NX.cell 2 rfl
       | 3,hj=>simp [TokG.cellsR] at hj;subst hj;exact NX.cell 3 rfl
       | 4,hj=>simp [TokG.cellsR] at hj;subst hj;exact NX.cell 4 rfl
       | j+5,hj=>simp [TokG.cellsR] at hj
      case c2=>
       intro u hu;simp [TokG.cellsR] at hu;rcases hu with rfl | rfl | rfl | rfl | rfl <;> rfl
      case c3=>unfold maxLen;omega
      case c4=>omega
      case c5=>simp;omega
      intro v' w3 hown' hgrow _;obtain ⟨g',cap',rfl⟩:=row_form hown';have hrow:∀ k,(Value.slice ao pre.length co).ownBlock=some k→w1.heap.size≤k:=fun k hk=>(hO2.lt k hk).1;have hb3:Below w1.heap.size w1 w3:=(hb2.alloc (by simp;omega) _).grown hgrow (by simp;omega) (fun k hk=>hrow k hk);have HE2:Hid (∀ x∈pre++[(⟨KD,TX,i,0,a1,n1,c1,a2,n2,c2⟩:TokG)],x.er=0):=fun x hx=>by
       rcases List.mem_append.1 hx with hx | hx
       · exact HE.out x hx
       · rw [List.mem_singleton.1 hx]
      clear hgrow hO2 hb2 hrow m0 m1 m2 m3 m4 Tk k3;go_wp2
      go_roundw
      case rel=>exact ⟨j,f,pre++[⟨KD,TX,i,0,a1,n1,c1,a2,n2,c2⟩],some ⟨g',0,none⟩,cap',rfl,(by simp),(by simpa using hown'),(by unfold Hid;rw [List.map_append,List.append_assoc];exact HI3.out),HE2,by omega,by omega,(by simp;omega),hb3⟩
      case measure=>simp [intOf];omega
    · have he0:((nextF ne cs i).2.2==0)=false:=by rw [beq_eq_false_iff_ne];exact h0
      have HF:Hid (refAllF ne s=([],(nextF ne cs i).2.2,i)):=by
       unfold Hid;rw [HF0.out,← HI2.out,if_neg h0,lastEr_app,if_neg h0]
      clear h0 HI2;generalize (nextF ne cs i).2.2=ER at *;have k3:=below_alloc w2 (.cells #[.int .i64 0,.string ⟨#[]⟩,.int .i64 0,.slice none 0 0,.slice none 0 0] 71);have s2:=k2.size;have hb2:=(hb.trans (k2.mono hsz)).trans (k3.mono (by omega));go_wp2
      refine bodyPost_ret (v:=.tuple #[.slice none 0 0,.int .i64 ER,.int .i64 i]) (by simp [results,Tryz.results32,go_sem]) rfl ?_;exact ⟨.slice none 0 0,[],by rw [HF.out],World.ownsRow_nil _ _ _ _,by rw [HF.out];rfl,k1.trans (hb2.mono s1)⟩
  · have HI2:Hid (pre.map TokG.core++[((0:Int),(⟨#[]⟩:ByteArray),i,(0:Int))]=refItems ne cs):=by
     unfold Hid;rw [← HI.out,refItemsF,if_neg hgo]
    have HF:Hid (refAllF ne s=(refItems ne cs,0,0)):=by
     unfold Hid;rw [HF0.out,if_pos];rw [← HI2.out];refine lastEr_zero (fun x hx => ?_);rcases List.mem_append.1 hx with hx | hx
     · obtain ⟨y,hy,rfl⟩:=List.mem_map.1 hx
       exact HE.out y hy
     · rw [List.mem_singleton.1 hx]
    clear HI;by_cases hil:i<cs.length
    case' pos=>
     obtain ⟨b,off,rfl,hci⟩:∃ b off,a=some ⟨b,off,none⟩∧wr.cell? ⟨b,off+i,none⟩=some (.int .i32 (cs.getD i 0)):=by
      obtain ⟨_,_,he,h1,h2,h⟩:=HRD.out.below hb;obtain ⟨rfl,_,rfl⟩:=Value.slice.inj he;rcases h with h | ⟨b,off,h3,h4,h5⟩
      · omega
      · exact ⟨b,off,h3,h5 i hil⟩
     obtain ⟨_,cc,_,hck,hcm,_⟩:=HRD.out;have e9:(cs.getD i 0==9053)=true:=by
      rw [beq_iff_eq];by_cases h9:cs.getD i 0=9053
      · exact h9
      · exact absurd ⟨hil,h9⟩ hgo
     clear hgo;generalize cs.getD i 0=D at *
    case' neg=>clear hgo
    all_goals
     go_wp2_with (at_builtin;refine wpList_append_own _ rfl _ _ 67 rfl w1.heap.size 71 i0 (.agg #[.int .i64 0,.string ⟨#[]⟩,.int .i64 0,.slice none 0 0,.slice none 0 0]) 5 80 Tryz.underlying67 hi hz0 hz1 hz2 rfl (by decide) _ _ _ rfl (hO.alloc _) ⟨_,0,none⟩ 1 1 (TokG.cellsR ⟨0,⟨#[]⟩,i,0,none,0,0,none,0,0⟩) rfl rfl ?c1 ?c2 ?c3 ?c4 ?c5 ?_)
     case c1=>
      intro j u hj;have NX:=boxA_new wr #[.int .i64 0,.string ⟨#[]⟩,.int .i64 i,.slice none 0 0,.slice none 0 0] 71
      (try rw [World.size_alloc] at NX)
      match j,hj with
      | 0,hj=>simp [TokG.cellsR] at hj;subst hj;exact NX.cell 0 rfl
      | 1,hj=>simp [TokG.cellsR] at hj;subst hj;exact NX.cell 1 rfl
      | 2,hj=>simp [TokG.cellsR] at hj;subst hj;exact NX.cell 2 rfl
      | 3,hj=>simp [TokG.cellsR] at hj;subst hj;exact NX.cell 3 rfl
      | 4,hj=>simp [TokG.cellsR] at hj;subst hj;exact NX.cell 4 rfl
      | j+5,hj=>simp [TokG.cellsR] at hj
     case c2=>
      intro u hu;simp [TokG.cellsR] at hu;rcases hu with rfl | rfl | rfl | rfl | rfl <;> rfl
     case c3=>unfold maxLen;omega
     case c4=>omega
     case c5=>simp;omega
     intro v' w3 hown' hgrow _;obtain ⟨g',cap',rfl⟩:=row_form hown';have hrow:∀ k,(Value.slice ao pre.length co).ownBlock=some k→w1.heap.size≤k:=fun k hk=>(hO.lt k hk).1;have hb3:Below w1.heap.size w1 w3:=(hb.alloc (by omega) _).grown hgrow (by simp;omega) (fun k hk=>hrow k hk);go_wp2
     refine bodyPost_ret (v:=.tuple #[.slice (some ⟨g',0,none⟩) (pre.length+1) cap',.int .i64 0,.int .i64 0]) (by simp [results,Tryz.results32,go_sem]) rfl ?_;refine ⟨_,pre++[(⟨0,⟨#[]⟩,i,0,none,0,0,none,0,0⟩:TokG)],by rw [HF.out];rfl,?_,?_,k1.trans (hb3.mono s1)⟩
     · refine row_mono ?_ s1
       simpa using hown'
     · rw [HF.out,List.map_append]
       exact HI2.out
end Go.Proofs.YtimfnalpmmkndaaGreatDoor
