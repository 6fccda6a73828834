/- glyphref11.IsName, glyphref03.Right: they answer, and turn nothing. -/
import Derived.Test.YtimfnalpmmkndaaGreatDoorRB
import Derived.Test.YtimfnalpmmkndaaGreatDoorRS
import Derived.Test.YtimfnalpmmkndaaGreatDoorNF
import Derived.Test.YtimfnalpmmkndaaGreatDoorRO
import Derived.Test.YtimfnalpmmkndaaGreatDoorRW
import Derived.Test.YtimfnalpmmkndaaGreatDoorRA
set_option maxRecDepth 100000
set_option maxHeartbeats 8000000
set_option linter.unusedVariables false
set_option linter.unusedSimpArgs false
namespace Go.Proofs.YtimfnalpmmkndaaGreatDoor
variable {w:World} {ne:ByteArray→Int}
section
open Go.RowKit
def ToldQ (w:World) (e:Ending) (w':World):Prop:=∃ b:Bool,e=.returned (.bool b)∧Below w.heap.size w w'
theorem lit_text (s t:ByteArray) (l:List UInt8) (h:t.toList=l):(s.toList==l)=decide (s=t)∧(s.toList=l↔s=t):=by
 rw [← h];exact ⟨same_textR s t,⟨fun e=>ByteArray.ext (Array.toList_inj.mp (by rw [← ByteArray.toList_eq,← ByteArray.toList_eq];exact e)),fun e=>by rw [e]⟩⟩
theorem refIsName11_any (hne:TellsErr ne) (s:ByteArray) (hs:s.size≤9223372036854775807) (hT:Lib.Utf8Tabs 0 1 w) :
    Calls Tryz.prog 10 #[.string s] w (ToldQ w):=by
 obtain ⟨b1,p1⟩:=lit_text s alT [226,141,186] (by rw [ByteArray.toList_eq];rfl);obtain ⟨b2,p2⟩:=lit_text s omT [226,141,181] (by rw [ByteArray.toList_eq];rfl);by_cases h1:s=alT
 · have q1:=p1.2 h1
   rw [decide_eq_true h1] at b1;clear p1 p2 b2 h1;go_enter Tryz.func10,Tryz.ntmps10;go_wp2
   go_ret
   exact ⟨true,rfl,Below.refl _ _⟩
 have q1:¬ s.toList=[226,141,186]:=fun h=>h1 (p1.1 h);by_cases h2:s=omT
 · have q2:=p2.2 h2
   rw [decide_eq_true h2] at b2;rw [decide_eq_false h1] at b1;clear p1 p2 h1 h2;go_enter Tryz.func10,Tryz.ntmps10;go_wp2
   go_ret
   exact ⟨true,rfl,Below.refl _ _⟩
 have q2:¬ s.toList=[226,141,181]:=fun h=>h2 (p2.1 h);rw [decide_eq_false h1] at b1;rw [decide_eq_false h2] at b2;clear p1 p2 h1 h2;go_enter Tryz.func10,Tryz.ntmps10
 go_wp2_with fail
 refine (refAll_any hne s hs hT).mono ?_;rintro e w2 ⟨v,toks,rfl,hrow,_,hb⟩;clear b1 b2 q1 q2;generalize (refAllF ne s).2.1=er at *;generalize (refAllF ne s).2.2=ep at *;obtain ⟨av,cv,rfl⟩:=row_form2S hrow;have HB:Hid (Below w.heap.size w w2):=hb;clear hb;by_cases h0:er=0
 · have d0:(er==0)=true:=by rw [beq_iff_eq];exact h0
   clear h0;by_cases hl:toks.length=2
   · obtain ⟨g,rfl⟩:∃ g,av=some ⟨g,0,none⟩:=by
      obtain ⟨_,⟨hv,hz⟩ | ⟨g,cap,cur,hv,_⟩⟩:=hrow
      · omega
      · exact ⟨g,(Value.slice.inj hv).1⟩
     obtain ⟨a,b,rfl⟩:∃ a b,toks=[a,b]:=by
      match toks,hl with
      | [a,b],_=>exact ⟨a,b,rfl⟩
     have k0:=World.ownsRow.cellAt hrow 0 (by simp);have t0:=World.ownsRow.cellAt hrow 1 (by simp);have k1:w2.cell? ⟨g,0,none⟩=some (.int .i64 a.kd):=k0;have t1:w2.cell? ⟨g,1,none⟩=some (.string a.tx):=t0;have tt:=same_textR a.tx s;clear hrow hl k0 t0;change Hid (Below w.heap.size w w2) at HB;by_cases hk:a.kd=3
     · have hk2:(a.kd==3)=true:=by rw [beq_iff_eq];exact hk
       clear hk;generalize decide (a.tx=s)=q at *;go_wp2
       go_ret
       exact ⟨q,rfl,HB.out⟩
     · have hk2:(a.kd==3)=false:=by rw [beq_eq_false_iff_ne];exact hk
       clear hk tt;go_wp2
       go_ret
       exact ⟨false,rfl,HB.out⟩
   · have i2:((toks.length:Int)==2)=false:=by rw [beq_eq_false_iff_ne];omega
     clear hl hrow;generalize toks.length=n at *;go_wp2
     go_ret
     exact ⟨false,rfl,HB.out⟩
 · have d0:(er==0)=false:=by rw [beq_eq_false_iff_ne];exact h0
   clear h0 hrow;generalize toks.length=n at *;go_wp2
   go_ret
   exact ⟨false,rfl,HB.out⟩
section
variable {D:Nat→Prop} {f:Nat} {W:World} {x1:Option Addr} {n1 y1:Nat} {x2:Option Addr} {n2 y2:Nat} {t:Tr}
theorem refRight11_any (hD:∀ g,D g→g<W.heap.size) (h:ArV f D W (.slice x1 n1 y1) (.slice x2 n2 y2) t):Calls Tryz.prog 66 #[.agg #[.slice x1 n1 y1,.slice x2 n2 y2]] W (ToldQ W):=by
 have k0:=below_alloc W (.cells #[.slice x1 n1 y1,.slice x2 n2 y2] 29);have X0:=boxA_new W #[.slice x1 n1 y1,.slice x2 n2 y2] 29;have s0:W.heap.size<(W.alloc (.cells #[.slice x1 n1 y1,.slice x2 n2 y2] 29)).heap.size:=by simp
 have z0:=X0.cell 0 rfl;have z1:=X0.cell 1 rfl;have hm:=rmeas_all 17 (by omega) f D _ x1 n1 y1 x2 n2 y2 t 0 16384 (by omega) (by omega) (by omega) (fun g hg=>by have:=hD g hg;omega) (h.agree (Agree.of k0 hD));go_enter Tryz.func66,Tryz.ntmps66
 go_wp2_with fail
 clear z0 z1 X0;generalize hA:W.alloc (.cells #[.slice x1 n1 y1,.slice x2 n2 y2] 29)=w0 at *;clear hA;refine hm.mono ?_;rintro e w' ⟨rfl,k⟩;clear hm
 cases hr:refF 17 t 16384 with
 | none=>
  clear hr;unfold rEnd;dsimp only [Option.getD_none,Option.isSome_none];go_wp2
  go_ret
  exact ⟨_,rfl,k0.trans (k.mono (by omega))⟩
 | some p=>
  obtain ⟨d,c⟩:=p;unfold rEnd;dsimp only [Option.getD_some,Option.isSome_some];by_cases hd:d≤16
  · clear hr
    go_wp2
    go_ret
    exact ⟨_,rfl,k0.trans (k.mono (by omega))⟩
  · clear hr
    go_wp2
    go_ret
    exact ⟨_,rfl,k0.trans (k.mono (by omega))⟩
end
attribute [local go_sem] Oper.semAt_some
theorem RtAns.from2 {f:Nat} {D:Nat→Prop} {w2 w':World} {rb:Nat} {e:Ending} (h:RtAns f (DX D w w2) w2 rb e w') (k:Below w.heap.size w w2):RtAns f D w rb e w':=by
 obtain ⟨n,h1,⟨a,c,R,h2,h3⟩,h4⟩:=h;have s1:=k.size;have s2:=h4.size;refine ⟨n,h1,⟨a,c,R,h2,h3.imp (fun g hg => ?_) (fun _ _=>rfl)⟩,(Kp.of_below k).trans h4⟩;rcases hg with (hg | hg) | hg
 · exact Or.inl hg
 · exact Or.inr ⟨hg.1,by have:=hg.2;omega⟩
 · exact Or.inr ⟨by omega,hg.2⟩
section
variable {f:Nat} {D Da:Nat→Prop} {w:World} {rb:Nat}
theorem RTab.later {w':World} (h:RTab f D w rb) (hD:∀ g,D g→g<w.heap.size∧g≠rb) (k:Below w.heap.size w w'):RTab f (DX D w w') w' rb∧(∀ g,DX D w w' g→g<w'.heap.size∧g≠rb):=by
 obtain ⟨a,c,R,h1,h2⟩:=h;have s1:=k.size;have l1:=h1.lt;refine ⟨⟨a,c,R,h1.below k l1,h2.imp (fun g hg=>Or.inl hg) (fun g hg=>k.block g (hD g hg).1)⟩,fun g hg => ?_⟩;rcases hg with hg | hg
 · have:=hD g hg;exact ⟨by omega,this.2⟩
 · exact ⟨hg.2,by omega⟩
theorem refSet_tab (x:ByteArray) {y:BV} (h:RTab f D w rb) (hD:∀ g,D g→g<w.heap.size∧g≠rb) (hG:GoodB f D w y):Calls Tryz.prog 68 #[.pointer (some ⟨rb,0,none⟩),.string x,.agg y.cells] w (RtAns f D w rb):=by
 obtain ⟨a,c,R,h1,h2⟩:=h;exact refSet_any x h1 h2 hD hG
theorem refClass_tab (x:ByteArray) (h:RTab f D w rb) (hD:∀ g,D g→g<w.heap.size∧g≠rb):Calls Tryz.prog 67 #[.pointer (some ⟨rb,0,none⟩),.string x] w fun e w'=>∃ n:Int,e=.returned (.int .i64 n)∧Below w.heap.size w w':=by
 obtain ⟨a,c,R,h1,h2⟩:=h;exact refClass_any x h1 h2 (fun g hg=>(hD g hg).1)
theorem refSetVar_any (hne:TellsErr ne) {x1 x2:Option Addr} {y1 y2:Nat} {t:Tr} (x:ByteArray) (hsz:x.size≤9223372036854775807) (hU:Lib.Utf8Tabs 0 1 w) (h:RTab f D w rb) (hD:∀ g,D g→g<w.heap.size∧g≠rb) (hA:ArV (f+1) Da w (.slice x1 t.ns.length y1) (.slice x2 t.kids.length y2) t) (hDa:∀ g,Da g→g<w.heap.size) (hS:smF (f+1) t) :
    Calls Tryz.prog 34 #[.pointer (some ⟨rb,0,none⟩),.string x,.agg #[.slice x1 t.ns.length y1,.slice x2 t.kids.length y2]] w (RtAns f D w rb):=by
 have e1:=below_alloc w (.cells #[.slice x1 t.ns.length y1,.slice x2 t.kids.length y2] 29);have B1:=boxA_new w #[.slice x1 t.ns.length y1,.slice x2 t.kids.length y2] 29;have HT:Hid (RTab f D w rb):=h;have HD:Hid (∀ g,D g→g<w.heap.size∧g≠rb):=hD;have HA:Hid (∀ V,Below w.heap.size w V→ArV (f+1) Da V (.slice x1 t.ns.length y1) (.slice x2 t.kids.length y2) t∧∀ g,Da g→g<V.heap.size):=fun V hV=>⟨hA.agree (fun g hg=>hV.block g (hDa g hg)),fun g hg=>by have:=hDa g hg;have:=hV.size;omega⟩;have HNO:Hid (∀ n w',Below w.heap.size w w'→RtAns f D w rb (.returned (.int .i64 n)) w'):=fun n w' k=>RtAns.no n h (fun g hg=>(hD g hg).1) k;have hU1:=Utf8Tabs.to hU e1 (Nat.le_refl _);clear h hD hA hDa hU;go_enter Tryz.func34,Tryz.ntmps34
 go_wp2_with fail
 obtain ⟨v,hv⟩:∃ v,w.alloc (.cells #[.slice x1 t.ns.length y1,.slice x2 t.kids.length y2] 29)=v:=⟨_,rfl⟩;rw [hv] at e1 B1 hU1 ⊢;clear hv;refine (refIsName11_any hne x hsz hU1).mono ?_;rintro e w2 ⟨bn,rfl,k2⟩;have K2:Below w.heap.size w w2:=e1.trans (k2.mono e1.size);have B2:=B1.below k2 B1.lt
 cases bn with
 | false=>
  have HF:=HNO.out 27 w2 K2;go_wp2
  go_ret
  exact HF
 | true=>
  have c0:=B2.cell 0 rfl;have c1:=B2.cell 1 rfl
  go_wp2_with fail
  refine (refRight11_any (HA.out w2 K2).2 (HA.out w2 K2).1).mono ?_;rintro e w3 ⟨br,rfl,k3⟩;have K3:Below w.heap.size w w3:=K2.trans (k3.mono K2.size);have B3:=B2.below k3 B2.lt;clear c0 c1
  cases br with
  | false=>
   have HF:=HNO.out 22 w3 K3;go_wp2
   go_ret
   exact HF
  | true=>
   obtain ⟨T3,D3⟩:=HT.out.later HD.out K3;have HT3:Hid (RTab f (DX D w w3) w3 rb):=T3;have HD3:Hid (∀ g,DX D w w3 g→g<w3.heap.size∧g≠rb):=D3;clear T3 D3
   go_wp2_with fail
   refine (refClass_tab x HT3.out HD3.out).mono ?_;rintro e w4 ⟨n,rfl,k4⟩;have K4:Below w.heap.size w w4:=K3.trans (k4.mono K3.size);have B4:=B3.below k4 B3.lt;have c0:=B4.cell 0 rfl;have c1:=B4.cell 1 rfl;have HGO:Hid (∀ w5 p1 r1 p2 r2,ArV (f+1) (Fr w4.heap.size w5.heap.size) w5 (.slice p1 t.ns.length r1) (.slice p2 t.kids.length r2) t→Below w4.heap.size w4 w5→Calls Tryz.prog 68 #[.pointer (some ⟨rb,0,none⟩),.string x,.agg #[.int .i64 2,.slice p1 t.ns.length r1,.slice p2 t.kids.length r2,.string ⟨#[]⟩,.string ⟨#[]⟩,.string ⟨#[]⟩,.string ⟨#[]⟩,.slice none 0 0,.slice none 0 0,.slice none 0 0,.slice none 0 0,.bool false,.int .i64 0]] w5 (RtAns f D w rb)):=by
    intro w5 p1 r1 p2 r2 hA5 k5;have K5:Below w.heap.size w w5:=K4.trans (k5.mono K4.size);obtain ⟨T5,D5⟩:=HT.out.later HD.out K5;have s4:=K4.size;refine (refSet_tab (y:=⟨2,p1,t.ns.length,r1,p2,t.kids.length,r2,⟨#[]⟩,⟨#[]⟩,⟨#[]⟩,⟨#[]⟩,none,0,0,none,0,0,none,0,0,none,0,0,false,0⟩) x T5 D5 ⟨varB t,⟨⟨p1,r1,p2,r2,none,0,none,0,none,0,none,0,rfl,hA5.mono (fun g hg=>Or.inr ⟨by have:=hg.1;omega,hg.2⟩),lists4_nil _ _⟩,by simp [shortB,varB,bd0]⟩,hS⟩).mono fun e w6 h6=>h6.from2 K5
   have HFD:=HNO.out 3 w4 K4;by_cases h3:n=3
   · have b3:(n==3)=true:=by simp [h3]
     clear h3;go_wp2
     go_ret
     exact HFD
   · have b3:(n==3)=false:=by simp [h3]
     by_cases h1:n=1
     · have b1:(n==1)=true:=by simp [h1]
       clear h1 h3;go_wp2
       go_ret
       exact HFD
     · have b1:(n==1)=false:=by simp [h1]
       clear h1 h3
       go_wp2_with fail
       refine (refCopyT_any (HA.out w4 K4).1 (HA.out w4 K4).2 hS).mono ?_;rintro e w5 ⟨p1,r1,p2,r2,rfl,hA5,k5⟩;have HC:=HGO.out w5 p1 r1 p2 r2 hA5 k5;clear hA5 k5 HGO
       go_wp2_with fail
       refine HC.mono ?_;rintro e w6 h6;have H6:Hid (RtAns f D w rb e w6):=h6;obtain ⟨m,rfl,_⟩:=h6;go_wp2
       go_ret
       exact H6.out
theorem refSetLab_any (hne:TellsErr ne) {ln:Int} (x:ByteArray) (hsz:x.size≤9223372036854775807) (hU:Lib.Utf8Tabs 0 1 w) (h:RTab f D w rb) (hD:∀ g,D g→g<w.heap.size∧g≠rb) :
    Calls Tryz.prog 36 #[.pointer (some ⟨rb,0,none⟩),.string x,.int .i64 ln] w (RtAns f D w rb):=by
 have HT:Hid (RTab f D w rb):=h;have HD:Hid (∀ g,D g→g<w.heap.size∧g≠rb):=hD;have HNO:Hid (∀ n w',Below w.heap.size w w'→RtAns f D w rb (.returned (.int .i64 n)) w'):=fun n w' k=>RtAns.no n h (fun g hg=>(hD g hg).1) k;clear h hD;go_enter Tryz.func36,Tryz.ntmps36
 go_wp2_with fail
 refine (refIsName11_any hne x hsz hU).mono ?_;rintro e w2 ⟨bn,rfl,K2⟩
 cases bn with
 | false=>
  have HF:=HNO.out 27 w2 K2;go_wp2
  go_ret
  exact HF
 | true=>
  by_cases hl:ln<0
  · have HF:=HNO.out 21 w2 K2
    go_wp2
    go_ret
    exact HF
  · obtain ⟨T3,D3⟩:=HT.out.later HD.out K2
    have HT3:Hid (RTab f (DX D w w2) w2 rb):=T3;have HD3:Hid (∀ g,DX D w w2 g→g<w2.heap.size∧g≠rb):=D3;clear T3 D3
    go_wp2_with fail
    refine (refClass_tab x HT3.out HD3.out).mono ?_;rintro e w4 ⟨n,rfl,k4⟩;have K4:Below w.heap.size w w4:=K2.trans (k4.mono K2.size);have HC:Hid (Calls Tryz.prog 68 #[.pointer (some ⟨rb,0,none⟩),.string x,.agg #[.int .i64 1,.slice none 0 0,.slice none 0 0,.string ⟨#[]⟩,.string ⟨#[]⟩,.string ⟨#[]⟩,.string ⟨#[]⟩,.slice none 0 0,.slice none 0 0,.slice none 0 0,.slice none 0 0,.bool false,.int .i64 ln]] w4 (RtAns f D w rb)):=by
     obtain ⟨T5,D5⟩:=HT.out.later HD.out K4;exact (refSet_tab (y:=⟨1,none,0,0,none,0,0,⟨#[]⟩,⟨#[]⟩,⟨#[]⟩,⟨#[]⟩,none,0,0,none,0,0,none,0,0,none,0,0,false,ln⟩) x T5 D5 ⟨labB ln,⟨⟨none,0,none,0,none,0,none,0,none,0,none,0,rfl,arV_zero f _ _,lists4_nil _ _⟩,by simp [shortB,labB,bd0]⟩,smF_zero f⟩).mono fun e w6 h6=>h6.from2 K4
    have HFD:=HNO.out 3 w4 K4;clear hl;by_cases h3:n=2
    · have b3:(n==2)=true:=by simp [h3]
      clear h3;go_wp2
      go_ret
      exact HFD
    · have b3:(n==2)=false:=by simp [h3]
      by_cases h1:n=3
      · have b1:(n==3)=true:=by simp [h1]
        clear h1 h3;go_wp2
        go_ret
        exact HFD
      · have b1:(n==3)=false:=by simp [h1]
        clear h1 h3
        go_wp2_with fail
        refine HC.out.mono ?_;rintro e w6 h6;have H6:Hid (RtAns f D w rb e w6):=h6;obtain ⟨m,rfl,_⟩:=h6;go_wp2
        go_ret
        exact H6.out
end
end
section
open Go.RowKit
attribute [local go_sem] Oper.semAt_some
section
variable {f:Nat} {D Da:Nat→Prop} {w:World} {rb:Nat}
theorem refSetFn_any (hne:TellsErr ne) {s1 s2 s3 s4:ByteArray} {b1 b2 b3 b4:Option Addr} {z1 z2 z3 z4:Nat} {l1 l2 l4:List ByteArray} {l3:List Int} {br:Bool} (hsz:s1.size≤9223372036854775807) (hU:Lib.Utf8Tabs 0 1 w) (h:RTab f D w rb) (hD:∀ g,D g→g<w.heap.size∧g≠rb) (hL:Lists4 Da w b1 b2 b3 b4 z1 z2 z3 z4 l1 l2 l3 l4) (hDa:∀ g,Da g→g<w.heap.size) (hs:shortB (fnB s1 s2 s3 s4 l1 l2 l3 l4 br)) :
    Calls Tryz.prog 35 #[.pointer (some ⟨rb,0,none⟩),.agg #[.string s1,.string s2,.string s3,.string s4,.slice b1 l1.length z1,.slice b2 l2.length z2,.slice b3 l3.length z3,.slice b4 l4.length z4,.bool br]] w (RtAns f D w rb):=by
 have e1:=below_alloc w (.cells #[.string s1,.string s2,.string s3,.string s4,.slice b1 l1.length z1,.slice b2 l2.length z2,.slice b3 l3.length z3,.slice b4 l4.length z4,.bool br] 36);have B1:=boxA_new w #[.string s1,.string s2,.string s3,.string s4,.slice b1 l1.length z1,.slice b2 l2.length z2,.slice b3 l3.length z3,.slice b4 l4.length z4,.bool br] 36;have HT:Hid (RTab f D w rb):=h;have lrb:=h.one11;have HD:Hid (∀ g,D g→g<w.heap.size∧g≠rb):=hD;have HL:Hid (∀ V,Below w.heap.size w V→Lists4 Da V b1 b2 b3 b4 z1 z2 z3 z4 l1 l2 l3 l4∧∀ g,Da g→g<V.heap.size):=fun V hV=>⟨hL.imp (fun _ h=>h) (fun g hg=>hV.block g (hDa g hg)),fun g hg=>by have:=hDa g hg;have:=hV.size;omega⟩;have HNO:Hid (∀ n w',Below w.heap.size w w'→RtAns f D w rb (.returned (.int .i64 n)) w'):=fun n w' k=>RtAns.no n h (fun g hg=>(hD g hg).1) k;have hU1:=Utf8Tabs.to hU e1 (Nat.le_refl _);clear h hD hL hDa hU;go_enter Tryz.func35,Tryz.ntmps35
 go_wp2_with fail
 obtain ⟨v1,hv1⟩:∃ v1,w.alloc (.cells #[.string s1,.string s2,.string s3,.string s4,.slice b1 l1.length z1,.slice b2 l2.length z2,.slice b3 l3.length z3,.slice b4 l4.length z4,.bool br] 36)=v1:=⟨_,rfl⟩;rw [hv1] at e1 B1 hU1 ⊢;clear hv1;refine (refIsName11_any hne s1 hsz hU1).mono ?_;rintro e w2 ⟨bn,rfl,k2⟩;have K2:Below w.heap.size w w2:=e1.trans (k2.mono e1.size);have B2:=B1.below k2 B1.lt
 cases bn with
 | false=>
  have HF:=HNO.out 27 w2 K2;go_wp2
  go_ret
  exact HF
 | true=>
  obtain ⟨T3,D3⟩:=HT.out.later HD.out K2;have HT3:Hid (RTab f (DX D w w2) w2 rb):=T3;have HD3:Hid (∀ g,DX D w w2 g→g<w2.heap.size∧g≠rb):=D3;have c0:=B2.cell 0 rfl;clear T3 D3
  go_wp2_with fail
  refine (refClass_tab s1 HT3.out HD3.out).mono ?_;rintro e w4 ⟨n,rfl,k4⟩;have K4:Below w.heap.size w w4:=K2.trans (k4.mono K2.size);have B4:=B2.below k4 B2.lt;have HGO:Hid (∀ w5 c1 d1 c2 d2 c3 d3 c4 d4,Lists4 (Fr w.heap.size w5.heap.size) w5 c1 c2 c3 c4 d1 d2 d3 d4 l1 l2 l3 l4→Below w.heap.size w w5→Calls Tryz.prog 68 #[.pointer (some ⟨rb,0,none⟩),.string s1,.agg #[.int .i64 3,.slice none 0 0,.slice none 0 0,.string s1,.string s2,.string s3,.string s4,.slice c1 l1.length d1,.slice c2 l2.length d2,.slice c3 l3.length d3,.slice c4 l4.length d4,.bool br,.int .i64 0]] w5 (fun e w6=>RtAns f D w rb e w6∧Kp rb w5 w6)):=by
   intro w5 c1 d1 c2 d2 c3 d3 c4 d4 hL5 K5;obtain ⟨T5,D5⟩:=HT.out.later HD.out K5;refine (refSet_tab (y:=⟨3,none,0,0,none,0,0,s1,s2,s3,s4,c1,l1.length,d1,c2,l2.length,d2,c3,l3.length,d3,c4,l4.length,d4,br,0⟩) s1 T5 D5 ⟨fnB s1 s2 s3 s4 l1 l2 l3 l4 br,⟨⟨none,0,none,0,c1,d1,c2,d2,c3,d3,c4,d4,rfl,arV_zero f _ _,hL5.imp (fun g hg=>Or.inr hg) (fun _ _=>rfl)⟩,hs⟩,smF_zero f⟩).mono fun e w6 h6=>⟨h6.from2 K5,?_⟩;obtain ⟨_,_,_,h⟩:=h6;exact h
  have HFD:=HNO.out 3 w4 K4;clear c0;by_cases h3:n=2
  · have b3':(n==2)=true:=by simp [h3]
    clear h3;go_wp2
    go_ret
    exact HFD
  · have b3':(n==2)=false:=by simp [h3]
    by_cases h1:n=1
    · have b1':(n==1)=true:=by simp [h1]
      clear h1 h3;go_wp2
      go_ret
      exact HFD
    · have b1':(n==1)=false:=by simp [h1]
      clear h1 h3
      go_upto_region 8 with fail
      refine wp_region_noPanic ?_;obtain ⟨v,hv⟩:∃ v,w4.drew=v:=⟨_,rfl⟩;have BV:BoxA v w.heap.size 36 #[.string s1,.string s2,.string s3,.string s4,.slice b1 l1.length z1,.slice b2 l2.length z2,.slice b3 l3.length z3,.slice b4 l4.length z4,.bool br]:=by rw [← hv];exact B4
      have KV:Below w.heap.size w v:=by rw [← hv];exact K4.drew
      have BN:Hid (rb<w.heap.size):=lrb;refine wp_region_held_drew (S:=(fun V=>V.cell? ⟨w.heap.size,0,none⟩=some (.string s1)∧V.cell? ⟨w.heap.size,1,none⟩=some (.string s2)∧V.cell? ⟨w.heap.size,2,none⟩=some (.string s3)∧V.cell? ⟨w.heap.size,3,none⟩=some (.string s4)∧V.cell? ⟨w.heap.size,4,none⟩=some (.slice b1 l1.length z1)∧V.cell? ⟨w.heap.size,5,none⟩=some (.slice b2 l2.length z2)∧V.cell? ⟨w.heap.size,6,none⟩=some (.slice b3 l3.length z3)∧V.cell? ⟨w.heap.size,7,none⟩=some (.slice b4 l4.length z4)∧V.cell? ⟨w.heap.size,8,none⟩=some (.bool br))) (by kernel_rfl) (by rw [hv];exact cells9 BV) (fun hS => ?_);rw [hv] at hS ⊢;clear hv
      · skip
        refine tk (i:=0) (v:=.pointer (some ⟨rb,0,none⟩)) ?_;simp only [Act.put,zA,z0Z,z1Z];refine tk (i:=1) (v:=.pointer (some ⟨w.heap.size,0,none⟩)) ?_;simp only [Act.put,zA,z0Z,z1Z];refine tk (i:=2) (v:=.string s1) ?_;simp only [Act.put,zA,z0Z,z1Z];refine tk (i:=3) (v:=.agg #[.string s1,.string s2,.string s3,.string s4,.slice b1 l1.length z1,.slice b2 l2.length z2,.slice b3 l3.length z3,.slice b4 l4.length z4,.bool br]) ?_;simp only [Act.put,zA,z0Z,z1Z];refine wpAnyH_ready (rs:=[4]) (by kernel_rfl) (by simp) ?_;refine AllReadyH.cons rfl (fun K hK => ?_) AllReadyH.nil;go_simp
        refine (refCopyFn_any (HL.out v KV).1 (HL.out v KV).2 hs.1 hs.2.1 hs.2.2.1 hs.2.2.2).mono ?_;rintro e w5 ⟨c1,d1,c2,d2,c3,d3,c4,d4,rfl,hL5,k5⟩;have K5:Below w.heap.size w w5:=KV.trans (k5.mono KV.size);have HC:=HGO.out w5 c1 d1 c2 d2 c3 d3 c4 d4 (hL5.imp (fun g hg=>⟨Nat.le_trans KV.size hg.1,hg.2⟩) (fun _ _=>rfl)) K5;have B5:=BV.below k5 BV.lt;clear hL5;go_simp
        refine hK.out _ _ (cells9 B5) (fun _ => ?_);clear hK K;refine tk (i:=5) (v:=.agg #[.int .i64 3,.slice none 0 0,.slice none 0 0,.string s1,.string s2,.string s3,.string s4,.slice c1 l1.length d1,.slice c2 l2.length d2,.slice c3 l3.length d3,.slice c4 l4.length d4,.bool br,.int .i64 0]) ?_;simp only [Act.put,zA,z0Z,z1Z];refine wpAnyH_ready (rs:=[6]) (by kernel_rfl) (by simp) ?_;refine AllReadyH.cons rfl (fun K hK => ?_) AllReadyH.nil;go_simp
        refine HC.mono ?_;rintro e w6 ⟨h6,h7⟩;have H6:Hid (RtAns f D w rb e w6):=h6;have B6:=B5.of_blk (h7.block _ B5.lt (by omega));obtain ⟨m,rfl,_⟩:=h6;go_simp
        refine hK.out _ _ (cells9 B6) (fun _ => ?_);clear hK K;refine tk (i:=7) (oi:={ dst:=some 4,op:=Op.assign (Operand.tmp 30),type:=39,pos:= "ref.go:176",after:=#[{ on:=6,ground:=Ground.data },{ on:=6,ground:=Ground.chain },{ on:=0,ground:=Ground.phase },{ on:=1,ground:=Ground.phase },{ on:=2,ground:=Ground.phase },{ on:=3,ground:=Ground.phase },{ on:=4,ground:=Ground.phase },{ on:=5,ground:=Ground.phase },{ on:=6,ground:=Ground.phase }],guard:=none }) (v:=.int .i64 m) ?_;simp only [Act.put,zA,z0Z,z1Z];refine wpAnyH_done (by kernel_rfl) ?_ _;dsimp only [NoPanic];go_wp2
        go_ret
        exact H6.out
end
end
section
open Go.RowKit
attribute [local go_sem] Oper.semAt_some
theorem row_take2 {e g n c z:Nat} {xs:List Value} (h:w.ownsRow 0 e 2 (.slice (some ⟨g,0,none⟩) n c) n xs) (hz:z≤n):w.ownsRow 0 e 2 (.slice (some ⟨g,0,none⟩) z c) z (xs.take (z*2)):=by
 obtain ⟨h1,⟨hv,_⟩ | ⟨g',cap,cur,hv,hg,hh,r1,r2,r3,r4⟩⟩:=h
 · cases hv
 · obtain ⟨hv1,_,rfl⟩:=Value.slice.inj hv
   cases hv1
   refine ⟨by rw [List.length_take,h1];omega,Or.inr ⟨g,c,cur,rfl,hg,hh,by omega,r2,r3,?_⟩⟩;rw [← r4,List.take_take]
   congr 1
   omega
theorem RtAns.drew {f:Nat} {D:Nat→Prop} {W:World} {rb:Nat} {e:Ending} (h:RtAns f D w rb e W):RtAns f D w rb e W.drew:=by
 obtain ⟨n,h1,h2,h3⟩:=h;exact ⟨n,h1,h2.imp (fun _ hg=>hg) (fun _ _=>rfl) rfl,h3.drewK⟩
section
variable {f:Nat} {D Da:Nat→Prop} {w:World} {rb:Nat}
theorem RTab.rowed {w2:World} {a':Option Addr} {c':Nat} {R':List RF} {a:Option Addr} {c n:Nat} (hB:BoxA w rb 83 #[.slice a n c]) (k:Below w.heap.size w w2) (hT:RT f (DX D w w2) w2 (.slice a' R'.length c') R') (hD:∀ g,D g→g<w.heap.size∧g≠rb):RTab f (DX D w (w2.setCell ⟨rb,0,none⟩ (.slice a' R'.length c'))) (w2.setCell ⟨rb,0,none⟩ (.slice a' R'.length c')) rb∧Kp rb w (w2.setCell ⟨rb,0,none⟩ (.slice a' R'.length c')):=by
 have s:=k.size;have l:=hB.lt;have b2:=hB.below k l;refine ⟨⟨a',c',R',by unfold BoxA at b2 ⊢;simp [World.setCell,Array.getElem?_modify,b2],hT.imp (fun g hg => ?_) (fun g hg=>set1_other (fun e => ?_) _)⟩,⟨k.os,k.tape,k.output,by rw [set1_size];exact s,fun g hg hne=>by rw [set1_other (fun e=>hne e.symm)];exact k.block g hg⟩⟩
 · rcases hg with hg | hg
   · exact Or.inl hg
   · exact Or.inr ⟨hg.1,by rw [set1_size];exact hg.2⟩
 · have e':rb=g:=e
   rcases hg with hg | hg
   · exact (hD g hg).2 e'.symm
   · have:=hg.1;omega
theorem refPop_any (h:RTab f D w rb) (hD:∀ g,D g→g<w.heap.size∧g≠rb):Calls Tryz.prog 39 #[.pointer (some ⟨rb,0,none⟩)] w (RtAns f D w rb):=by
 have HNO:Hid (∀ n,RtAns f D w rb (.returned (.int .i64 n)) w):=fun n=>RtAns.no n h (fun g hg=>(hD g hg).1) (Below.refl _ _);obtain ⟨a,c,R,hB,hR⟩:=h;obtain ⟨g,rfl,hgD,hgl,_⟩:=hR.row.ptr hR.pos;have c0:=hB.cell 0 rfl;have f0:=hB.frozen 0;have hfew:=hR.few;obtain ⟨hc1,hc2⟩:=hR.row.cap;obtain ⟨z,hz⟩:∃ z,z=R.length - 1:=⟨_,rfl⟩;by_cases h2:R.length<2
 · have i2:(R.length:Int)<2:=by omega
   have HF:=HNO.out 23;clear hB hR hz;go_enter Tryz.func39,Tryz.ntmps39;go_wp2
   go_ret
   exact HF
 · have i2:¬ (R.length:Int)<2:=by omega
   have hw1:IntKind.i64.wrap ((R.length:Int) - 1)=(z:Int):=by rw [IntKind.wrap_i64];omega
   have HZ:Hid (z=R.length - 1):=hz;have z0:0≤(z:Int):=by omega
   have z1:(z:Int)≤(c:Int):=by omega
   have z2:z≤c:=by omega
   have HA:Hid (RtAns f D w rb (.returned (.int .i64 0)) (w.setCell ⟨rb,0,none⟩ (.slice (some ⟨g,0,none⟩) z c))):=by
    have hl:(R.take z).length=z:=by rw [List.length_take];omega
    have:=RTab.rowed (f:=f) (D:=D) (R':=R.take z) (a':=some ⟨g,0,none⟩) (c':=c) hB (Below.refl _ _) ⟨⟨by rw [hl,← rfRow_take];exact row_take2 hR.row.1 (by omega),fun q hq=>by cases hq;exact Or.inl hgD⟩,fun r hr=>(hR.fr r (List.mem_of_mem_take hr)).imp (fun _ h=>Or.inl h) (fun _ _=>rfl),by rw [hl];omega,by rw [hl];omega⟩ hD;rw [hl] at this;exact ⟨0,rfl,this.1,this.2⟩
   have HB:Hid (BoxA w rb 83 #[.slice (some ⟨g,0,none⟩) R.length c]):=hB;clear hB hR hz HNO h2;go_enter Tryz.func39,Tryz.ntmps39
   go_upto_region 5 with fail
   go_region
   go_wp2
   go_ret
   exact HA.out.drew
end
end
section
open Go.RowKit
attribute [local go_sem] Oper.semAt_some
section
variable {f:Nat} {D Da:Nat→Prop} {w:World} {rb:Nat}
theorem refPush_any (hne:TellsErr ne) {an:Option Addr} {cn:Nat} {ss:List ByteArray} (hU:Lib.Utf8Tabs 0 1 w) (h:RTab f D w rb) (hD:∀ g,D g→g<w.heap.size∧g≠rb) (hN:RdT Da w (.slice an ss.length cn) ss) (hDa:∀ g,Da g→g<w.heap.size) (hsz:∀ x∈ss,x.size≤9223372036854775807) (hfw:ss.length≤8796093022208) :
    Calls Tryz.prog 38 #[.pointer (some ⟨rb,0,none⟩),.slice an ss.length cn] w (RtAns f D w rb):=by
 have HNO:Hid (∀ n w',Below w.heap.size w w'→RtAns f D w rb (.returned (.int .i64 n)) w'):=fun n w' k=>RtAns.no n h (fun g hg=>(hD g hg).1) k;obtain ⟨a,c,R,hB,hR⟩:=h;have HB:Hid (BoxA w rb 83 #[.slice a R.length c]):=hB;have HR:Hid (RT f D w (.slice a R.length c) R):=hR;have HD:Hid (∀ g,D g→g<w.heap.size∧g≠rb):=hD;have HN:Hid (RdS w.heap.size w (.slice an ss.length cn) ss):=hN.rd hDa;have HU:Hid (Lib.Utf8Tabs 0 1 w):=hU;have HSZ:Hid (∀ j,j<ss.length→(ss.getD j noT).size≤9223372036854775807):=fun j hj=>hsz _ (by rw [List.getD_eq_getElem?_getD,List.getElem?_eq_getElem hj];exact List.getElem_mem hj);have hfew:=hR.few;have hpos:=hR.pos;have lrb:=hB.lt;have hfw2:Hid (ss.length≤8796093022208):=hfw;have hcap:ss.length≤9223372036854775807:=by omega
 clear hB hR hD hN hDa hsz hU hfw;go_enter Tryz.func38,Tryz.ntmps38;go_wp2
 go_loopw [5,6] (fun lv iv wr=>∃ (i:Nat) (a5:Option Addr) (c5:Nat) (ls:List ByteArray),lv=.slice a5 ls.length c5∧iv=.int .i64 i∧i≤ss.length∧ls.length≤i∧Hid (OwS w.heap.size wr (.slice a5 ls.length c5) ls)∧Below w.heap.size w wr) (fun lv iv _=>ss.length - (intOf iv).toNat)
 case atStart=>exact ⟨0,none,0,[],rfl,rfl,Nat.zero_le _,Nat.le_refl _,World.ownsRow_nil _ _ _ _,Below.refl _ _⟩
 case round=>
  obtain ⟨i,a5,c5,ls,rfl,rfl,hi,hls,HO,kr⟩:=hrel;by_cases hlt:i<ss.length
  · have i1:(i:Int)<(ss.length:Int):=by omega
    obtain ⟨g,o,rfl,hg,hc⟩:=HN.out.ptr (by omega);have q:=(kr.cell (p:=⟨g,o+i,none⟩) (by show g<_;omega)).trans (hc i hlt);have HI:Hid (i+1≤ss.length):=by unfold Hid;omega
    have HLS:Hid (ls.length≤i+1):=by unfold Hid;omega
    have hxs:=HSZ.out i hlt;have hUr:=Utf8Tabs.to HU.out kr (Nat.le_refl _);generalize ss.getD i noT=x at *;clear hc
    go_wp2_with fail
    refine (refIsName11_any hne x hxs hUr).mono ?_;rintro e w1 ⟨bn,rfl,k1⟩;have K1:Below w.heap.size w w1:=kr.trans (k1.mono kr.size);have q1:=(k1.cell (p:=⟨g,o+i,none⟩) (by have:=kr.size;show g<_;omega)).trans q;have HO1:Hid (OwS w.heap.size w1 (.slice a5 ls.length c5) ls):=owS_belowS HO.out k1 (Nat.le_refl _)
    cases bn with
    | false=>
     have HF:=HNO.out 27 w1 K1;go_wp2
     go_ret
     exact HF
    | true=>
     have hRD:=RdS.of_row HO1.out
     go_wp2_with fail
     refine (refHas11_any x hRD).mono ?_;rintro e w2 ⟨rfl,rfl⟩;clear hRD
     cases memT x ls with
     | true=>
      go_wp2
      go_roundw
      case rel=>exact ⟨i+1,a5,c5,ls,rfl,by go_num,HI.out,HLS.out,HO1,K1⟩
      case measure=>have:=HI.out;simp [intOf];omega
     | false=>
      have HO2:Hid (OwS w.heap.size (w1.alloc (.cells #[.string x] 9)) (.slice a5 ls.length c5) ls):=World.ownsRow.alloc HO1.out _;have HX:Hid (RdS (w1.heap.size+1) (w1.alloc (.cells #[.string x] 9)) (.slice (some ⟨w1.heap.size,0,none⟩) 1 1) [x]):=⟨_,1,rfl,Nat.le_refl _,by omega,(fun e=>by cases e),Or.inr ⟨w1.heap.size,0,rfl,by omega,fun j hj=>by
       obtain rfl:j=0:=by simp at hj;exact hj
       exact (boxA_new w1 #[.string x] 9).cell 0 rfl⟩⟩
      have hbs:(ls.length+1)*16≤140737488355328:=by have:=hfw2.out;omega
      have hsw:w.heap.size≤(w1.alloc (.cells #[.string x] 9)).heap.size:=by have:=K1.size;simp;omega
      go_wp2_with (at_builtin;refine append_strs rfl _ _ rfl rfl rfl (base:=w.heap.size) HO2.out HX.out hbs hsw ?_)
      intro v' w3 hO3 hg3;obtain ⟨a6,c6,rfl⟩:=row_form2S hO3;have K3:Below w.heap.size w w3:=(K1.alloc K1.size _).grown hg3 hsw (fun k hk=>(row_own HO2.out k hk).1);have HO3:Hid (OwS w.heap.size w3 (.slice a6 (ls++[x]).length c6) (ls++[x])):=hO3;have hl3:(ls++[x]).length≤i+1:=by simp;omega
      clear hO3 hg3 HO2 HX hbs hsw;generalize ls++[x]=ls2 at *;go_wp2
      go_roundw
      case rel=>exact ⟨i+1,a6,c6,ls2,rfl,by go_num,HI.out,hl3,HO3,K3⟩
      case measure=>have:=HI.out;simp [intOf];omega
  · have i1:¬ (i:Int)<(ss.length:Int):=by omega
    by_cases h64:64<ss.length
    · have j1:(64:Int)<(ss.length:Int):=by omega
      have HF:=HNO.out 25 wr kr;go_wp2
      go_ret
      exact HF
    · have j1:¬ (64:Int)<(ss.length:Int):=by omega
      have BT:=HB.out.below kr lrb;have c0:=BT.cell 0 rfl;by_cases h65:64<R.length
      · have j2:(64:Int)<(R.length:Int):=by omega
        have HF:=HNO.out 24 wr kr;go_wp2
        go_ret
        exact HF
      · have j2:¬ (64:Int)<(R.length:Int):=by omega
        have TR:=(HR.out.imp (fun _ h=>h) (fun q hq=>kr.block q (HD.out q hq).1)).row
        go_wp2_with (at_builtin;refine append_nilF rfl _ _ rfl rfl rfl TR hpos (by omega) ?_)
        intro gl cl w2 hgl hfr k2;have s2:=k2.size;have sr:=kr.size;have K2:Below w.heap.size w w2:=kr.trans (k2.mono sr);have HFR:Hid ((w2.alloc (.cells #[.slice a5 ls.length c5,.slice none 0 0] 80)).ownsRow wr.heap.size 80 2 (.slice (some ⟨gl,0,none⟩) R.length cl) R.length (rfRow R)):=World.ownsRow.alloc hfr _;have HNB:Hid (BoxA (w2.alloc (.cells #[.slice a5 ls.length c5,.slice none 0 0] 80)) w2.heap.size 80 #[.slice a5 ls.length c5,.slice none 0 0]):=boxA_new _ _ _;have HO4:Hid (OwS w.heap.size w2 (.slice a5 ls.length c5) ls):=owS_belowS HO.out k2 (Nat.le_refl _);have hsw:wr.heap.size≤(w2.alloc (.cells #[.slice a5 ls.length c5,.slice none 0 0] 80)).heap.size:=by simp;omega
        clear TR hfr c0 k2
        go_wp2_with (at_builtin;refine append_fr11 (r:=⟨a5,c5,ls,none,0,[]⟩) rfl _ _ rfl rfl rfl HFR.out HNB.out (by omega) hsw ?_)
        intro a7 c7 w3 hrow hg3;have hlen:(R++[(⟨a5,c5,ls,none,0,[]⟩:RF)]).length=R.length+1:=by simp
        have K3:Below w.heap.size w w3:=(K2.alloc K2.size _).grown hg3 (by have:=K2.size;simp;omega) (fun k hk=>by have:=(row_own HFR.out k hk).1;omega);have BT3:=HB.out.below K3 lrb;have c3:=BT3.cell 0 rfl;have f3:=BT3.frozen 0;have HO5:Hid (OwS w.heap.size w3 (.slice a5 ls.length c5) ls):=by
         refine World.ownsRow.kept (World.ownsRow.alloc HO4.out _) hg3 ?_;by_cases he:(Value.slice a5 ls.length c5).ownBlock=none
         · exact Or.inl he
         · refine Or.inr (fun e => ?_)
           cases hb:(Value.slice a5 ls.length c5).ownBlock with
           | none=>exact he hb
           | some q=>
            rw [hb] at e;have h1:=(row_own HO.out q hb).2;have h2:=(row_own HFR.out q e.symm).1;omega
        have HFIN:Hid (RtAns f D w rb (.returned (.int .i64 0)) (w3.setCell ⟨rb,0,none⟩ (.slice a7 (R.length+1) c7))):=by
         have hT:RT f (DX D w w3) w3 (.slice a7 (R++[(⟨a5,c5,ls,none,0,[]⟩:RF)]).length c7) (R++[(⟨a5,c5,ls,none,0,[]⟩:RF)]):=by
          refine ⟨⟨by rw [hlen];exact rowMonoR hrow (Nat.zero_le _),fun q hq => ?_⟩,fun r hr => ?_,by rw [hlen];omega,by rw [hlen];omega⟩
          · have:=row_own hrow q (by rw [hlen] at hq;exact hq)
            exact Or.inr ⟨by omega,this.2⟩
          · rcases List.mem_append.1 hr with h1 | h1
            · exact (HR.out.fr r h1).imp (fun _ h=>Or.inl h) (fun q hq=>K3.block q (HD.out q hq).1)
            · rw [List.mem_singleton.1 h1]
              exact ⟨(RdT.of_own HO5.out).imp (fun q hq=>Or.inr hq) (fun _ _=>rfl),RowD.nil,(fun p hp=>by cases hp),by simp⟩
         have:=RTab.rowed HB.out K3 hT HD.out;rw [hlen] at this;exact ⟨0,rfl,this.1,this.2⟩
        clear hrow hg3 HFR HNB HO4 HO5 hlen hsw;go_wp2
        go_ret
        exact HFIN.out
end
theorem refNew_any (w:World):Calls Tryz.prog 12 #[] w fun e w'=>e=.returned (.pointer (some ⟨w.heap.size+1,0,none⟩))∧w'=(w.alloc (.cells #[.slice none 0 0,.slice none 0 0] 80)).alloc (.cells #[.slice (some ⟨w.heap.size,0,none⟩) 1 1] 83):=by
 go_enter Tryz.func12,Tryz.ntmps12;go_wp2
 go_ret
 exact ⟨by simp,rfl⟩
theorem refTab_new (f:Nat) (w:World):RTab f (fun g=>g=w.heap.size) ((w.alloc (.cells #[.slice none 0 0,.slice none 0 0] 80)).alloc (.cells #[.slice (some ⟨w.heap.size,0,none⟩) 1 1] 83)) (w.heap.size+1):=by
 have k:=below_alloc (w.alloc (.cells #[.slice none 0 0,.slice none 0 0] 80)) (.cells #[.slice (some ⟨w.heap.size,0,none⟩) 1 1] 83);have b:=boxA_new (w.alloc (.cells #[.slice none 0 0,.slice none 0 0] 80)) #[.slice (some ⟨w.heap.size,0,none⟩) 1 1] 83;rw [World.size_alloc] at b;have b0:=(boxA_new w #[.slice none 0 0,.slice none 0 0] 80).below k (by simp);refine ⟨some ⟨w.heap.size,0,none⟩,1,[rf0],b,⟨⟨⟨rfl,Or.inr ⟨w.heap.size,1,_,rfl,Nat.zero_le _,b0,Nat.le_refl _,by unfold maxLen;omega,rfl,rfl⟩⟩,fun q hq=>by cases hq;rfl⟩,fun r hr => ?_,by simp,by simp⟩⟩;rw [List.mem_singleton.1 hr];exact ⟨rdT_nil _ _,RowD.nil,(fun p hp=>by cases hp),by simp [rf0]⟩
end
end Go.Proofs.YtimfnalpmmkndaaGreatDoor
